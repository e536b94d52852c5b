/- Law 6's own has and put. -/
import Derived.Test.YtdgcekkaiaehaaaLaw6
import Derived.Test.YtdgcekkaiaehaaaOwnZ
import Derived.Deep.CutRange
import Derived.Outline
namespace Go.Proofs.Ytdgcekkaiaehaaa
open Go.RowKit

/-- What a key has, by two rows. -/
def hasOf : List Int → List Int → Int → Int
  | k :: ks, v :: vs, key => if k = key then v else hasOf ks vs key
  | _, _, _ => 0
theorem hasOf_drop {ks vs : List Int} {key : Int} {j : Nat} (h1 : j < ks.length) (h2 : j < vs.length) : hasOf (ks.drop j) (vs.drop j) key = if ks.getD j 0 = key then vs.getD j 0 else hasOf (ks.drop (j + 1)) (vs.drop (j + 1)) key := by
  rw [drop_cons h1, drop_cons h2]
  rfl
set_option linter.unusedSimpArgs false in
set_option maxRecDepth 100000 in
set_option maxHeartbeats 1600000 in
theorem has_law {w : World} {a b : Option Addr} {n c d : Nat} {ks vs : List Int} (key : Int) (hk : Numbers w a n c ks) (hv : Numbers w b n d vs) (hn : n ≤ 1000) :
    Calls Try.prog 15 #[.slice a n c, .slice b n d, .int .i64 key] w fun e w' => e = .returned (.int .i64 (hasOf ks vs key)) ∧ w = w' := by
  obtain ⟨R, hR⟩ : ∃ R, R = hasOf ks vs key := ⟨_, rfl⟩
  rw [← hR]
  have HK := Lib.hid hk
  have HV := Lib.hid hv
  have HR := Lib.hid hR
  clear hk hv hR
  go_enter Try.func15, Try.ntmps15
  go_wp2
  go_loop [7] (fun i => ∃ j : Nat, j ≤ n ∧ i = .int .i64 j ∧ R = hasOf (ks.drop j) (vs.drop j) key) (fun i => n - (intOf i).toNat)
  case atStart => exact ⟨0, Nat.zero_le _, rfl, HR.out⟩
  case round =>
    obtain ⟨j, hj, rfl, hrj⟩ := hrel
    clear HR
    by_cases hjn : j < n
    · have f1 : (j : Int) < (n : Int) := by omega
      have f0 : (0 : Int) ≤ (j : Int) := by omega
      have ft : ((j : Int)).toNat = j := by omega
      obtain ⟨ba, oa, rfl, _, ha⟩ := HK.out.2.2.2.2.2 (by omega)
      obtain ⟨bb, ob, rfl, _, hb⟩ := HV.out.2.2.2.2.2 (by omega)
      have ka := ha j hjn
      have kb := hb j hjn
      rw [hasOf_drop (by rw [HK.out.1]; exact hjn) (by rw [HV.out.1]; exact hjn)] at hrj
      obtain ⟨x, hx⟩ : ∃ x, x = ks.getD j 0 := ⟨_, rfl⟩
      obtain ⟨y, hy⟩ : ∃ y, y = vs.getD j 0 := ⟨_, rfl⟩
      rw [← hx] at ka hrj
      rw [← hy] at kb hrj
      clear ha hb hx hy
      by_cases he : x = key
      · rw [if_pos he] at hrj
        subst hrj
        subst he
        go_wp2
        go_ret
        exact ⟨rfl, rfl⟩
      · rw [if_neg he] at hrj
        have HRJ := Lib.hid hrj
        have he' : (x == key) = false := by simpa using he
        clear hrj
        go_wp2
        go_round
        case rel => exact ⟨j + 1, by omega, by go_num, HRJ.out⟩
        case measure => simp [intOf]; omega
    · have f1 : ¬ ((j : Int) < (n : Int)) := by omega
      have hd : ks.drop j = [] := List.drop_of_length_le (by rw [HK.out.1]; omega)
      rw [hd] at hrj
      have hrj : R = 0 := hrj
      subst hrj
      go_wp2
      go_ret
      exact ⟨rfl, rfl⟩
theorem Try.infoZ : (Try.prog.info? 2).map (fun i => (i.zero, i.size, i.bytes)) = some (some (.int .i64 0), 1, 8) := by kernel_rfl
theorem Try.infoN : (Try.prog.info? 3).map (fun i => (i.zero, i.size, i.bytes)) = some (some (.int .i64 0), 1, 8) := by kernel_rfl
/-- The row of amounts, up to the j-th, where a key is given n. -/
def outTo (ks vs : List Int) (key n : Int) (j : Nat) : List Int := (List.range j).map fun (i : Nat) => if ks.getD i 0 = key then n else vs.getD i 0
theorem outTo_len (ks vs : List Int) (key n : Int) (j : Nat) : (outTo ks vs key n j).length = j := by simp [outTo]
theorem outTo_succ (ks vs : List Int) (key n : Int) (j : Nat) : outTo ks vs key n (j + 1) = outTo ks vs key n j ++ [if ks.getD j 0 = key then n else vs.getD j 0] := by
  unfold outTo
  rw [List.range_succ, List.map_append]
  simp
def putK (ks : List Int) (key : Int) : List Int := if key ∈ ks then ks else ks ++ [key]
def putL (ks vs : List Int) (key n : Int) : List Int := if key ∈ ks then outTo ks vs key n ks.length else outTo ks vs key n ks.length ++ [n]
theorem mem_take_succ {ks : List Int} {key : Int} {j : Nat} (h : j < ks.length) : key ∈ ks.take (j + 1) ↔ (key ∈ ks.take j ∨ ks.getD j 0 = key) := by
  rw [List.take_succ_eq_append_getElem h, List.mem_append, List.mem_singleton]
  have e : ks.getD j 0 = ks[j] := by simp [List.getD, h]
  rw [e]
  exact ⟨fun h => h.imp id Eq.symm, fun h => h.imp id Eq.symm⟩
theorem lit_empty (w : World) (e : TypeId) (B : Nat) (hB : B ≤ w.heap.size) : OwnZ (w.alloc (.cells #[] e)) e B (.slice (some ⟨w.heap.size, 0, none⟩) 0 0) [] :=
  ⟨World.ownsRow_lit w #[] 0 hB (by unfold maxLen; omega) rfl, fun _ h => by cases h⟩
def PutIs (w : World) (B : Nat) (K L : List Int) (e : Ending) (w' : World) : Prop :=
  ∃ (a b : Option Addr) (c d : Nat), e = .returned (.tuple #[.slice a K.length c, .slice b K.length d]) ∧ OwnZ w' 3 B (.slice a K.length c) K ∧ OwnZ w' 2 B (.slice b K.length d) L ∧ Below w.heap.size w w'
set_option linter.unusedSimpArgs false in
set_option maxRecDepth 100000 in
set_option maxHeartbeats 3200000 in
theorem put_law {w : World} {a b : Option Addr} {n c d : Nat} {ks vs : List Int} (key z : Int) (hkey : Fits key) (hz : Fits z) {B0 : Nat} (hB0 : B0 ≤ w.heap.size) (hk : OwnZ w 3 B0 (.slice a n c) ks) (hv : OwnZ w 2 B0 (.slice b n d) vs) (hn : n ≤ 1000) :
    Calls Try.prog 17 #[.slice a n c, .slice b n d, .int .i64 key, .int .i64 z] w fun e w' => PutIs w B0 (putK ks key) (putL ks vs key z) e w' := by
  obtain ⟨i0, hi, hz0, hz1, hz2⟩ := info_parts Try.infoZ
  obtain ⟨i1, hi', hy0, hy1, hy2⟩ := info_parts Try.infoN
  have HI := Lib.hid hi
  have HI1 := Lib.hid hi'
  have HKO := Lib.hid hk
  have HK := Lib.hid hk.numbers
  have HV := Lib.hid hv.numbers
  have HZ := Lib.hid hz
  have HKEY := Lib.hid hkey
  have hkl := hk.numbers.1
  clear hi hi' hk hv hz hkey
  go_enter Try.func17, Try.ntmps17
  go_wp2
  go_loopw [10, 11, 12] (fun u f i wr => ∃ (j : Nat) (B : Bool), j ≤ n ∧ i = .int .i64 j ∧ f = .bool B ∧ (B = true ↔ key ∈ ks.take j) ∧ UnderZ w 2 u (outTo ks vs key z j) wr) (fun _ _ i _ => n - (intOf i).toNat)
  case atStart => exact ⟨0, false, Nat.zero_le _, rfl, rfl, by simp, UnderZ.nil _ _⟩
  case round =>
    obtain ⟨j, B, hj, rfl, rfl, hB, hat⟩ := hrel
    by_cases hjn : j < n
    · have f1 : (j : Int) < (n : Int) := by omega
      have f0 : (0 : Int) ≤ (j : Int) := by omega
      have ft : ((j : Int)).toNat = j := by omega
      obtain ⟨ba, oa, rfl, hla, ha⟩ := HK.out.2.2.2.2.2 (by omega)
      obtain ⟨bb, ob, rfl, hlb, hb⟩ := HV.out.2.2.2.2.2 (by omega)
      have ka := (hat.below.cell (p := ⟨ba, oa + j, none⟩) hla).trans (ha j hjn)
      have kb := (hat.below.cell (p := ⟨bb, ob + j, none⟩) hlb).trans (hb j hjn)
      have hfy := HV.out.fits hjn
      have hmem := mem_take_succ (ks := ks) (key := key) (j := j) (by omega)
      have hsucc := outTo_succ ks vs key z j
      obtain ⟨L, hL⟩ : ∃ L, L = outTo ks vs key z j := ⟨_, rfl⟩
      have hLl : L.length = j := by rw [hL]; exact outTo_len _ _ _ _ _
      rw [← hL] at hat hsucc
      obtain ⟨x, hx⟩ : ∃ x, x = ks.getD j 0 := ⟨_, rfl⟩
      obtain ⟨y, hy⟩ : ∃ y, y = vs.getD j 0 := ⟨_, rfl⟩
      rw [← hx] at ka hmem hsucc
      rw [← hy] at kb hfy hsucc
      obtain ⟨a', c', rfl, _⟩ := hat.own.shape
      rw [hLl] at hat
      rw [hLl]
      have HLL := Lib.hid hLl
      have HAT := Lib.hid hat
      have HB := Lib.hid hB
      have HMEM := Lib.hid hmem
      by_cases he : x = key
      · rw [if_pos he] at hsucc
        have HS := Lib.hid hsucc
        have HM : Hid (true = true ↔ key ∈ ks.take (j + 1)) := Lib.hid (by rw [hmem]; simp [he])
        have b1 : Below wr.heap.size wr (wr.alloc (.cells #[.int .i64 z] 2)) := (Below.refl _ _).alloc (Nat.le_refl _) _
        have HA1 := Lib.hid (HAT.out.more b1)
        have HN1 := Lib.hid (numbers_one (heap_alloc_new wr (.cells #[.int .i64 z] 2)) HZ.out)
        clear hLl hat hB hmem hsucc hL hx hy ha hb b1 hfy
        subst he
        go_wp2_with (at_builtin; refine wpList_append_numbers _ rfl _ _ 22 2 rfl w.heap.size i0 Try.underlying22 HI.out hz0 hz1 hz2 (.slice a' j c') L j HLL.out rfl HA1.out.own _ 1 1 [z] rfl HN1.out (by omega) HA1.out.below.size ?_; intro a8 c8 w8 ho8 hg8; have HA8 := Lib.hid (HA1.out.grown ho8 hg8); clear ho8 hg8)
        go_roundw
        case rel => exact ⟨j + 1, true, by omega, by go_num, rfl, by first | exact HM.out | simpa using HM.out, by rw [HS.out]; exact HA8.out⟩
        case measure => simp [intOf]; omega
      · rw [if_neg he] at hsucc
        have HS := Lib.hid hsucc
        have HM : Hid (B = true ↔ key ∈ ks.take (j + 1)) := Lib.hid (by rw [hmem]; simp [he, hB])
        have he' : (x == key) = false := by simpa using he
        have b1 : Below wr.heap.size wr (wr.alloc (.cells #[.int .i64 y] 2)) := (Below.refl _ _).alloc (Nat.le_refl _) _
        have HA1 := Lib.hid (HAT.out.more b1)
        have HN1 := Lib.hid (numbers_one (heap_alloc_new wr (.cells #[.int .i64 y] 2)) hfy)
        clear hLl hat hB hmem hsucc hL hx hy ha hb b1 hfy
        go_wp2_with (at_builtin; refine wpList_append_numbers _ rfl _ _ 22 2 rfl w.heap.size i0 Try.underlying22 HI.out hz0 hz1 hz2 (.slice a' j c') L j HLL.out rfl HA1.out.own _ 1 1 [y] rfl HN1.out (by omega) HA1.out.below.size ?_; intro a8 c8 w8 ho8 hg8; have HA8 := Lib.hid (HA1.out.grown ho8 hg8); clear ho8 hg8)
        go_roundw
        case rel => exact ⟨j + 1, B, by omega, by go_num, rfl, HM.out, by rw [HS.out]; exact HA8.out⟩
        case measure => simp [intOf]; omega
    · have f1 : ¬ ((j : Int) < (n : Int)) := by omega
      obtain rfl : j = n := by omega
      rw [List.take_of_length_le (by omega)] at hB
      have hLl : (outTo ks vs key z j).length = j := outTo_len _ _ _ _ _
      obtain ⟨a', c', rfl, _⟩ := hat.own.shape
      rw [hLl] at hat
      rw [hLl]
      have HAT := Lib.hid hat
      have HBB := Lib.hid hB
      clear hat hB hLl
      cases B with
      | true =>
        have hm : key ∈ ks := HBB.out.1 rfl
        have e1 : putK ks key = ks := by unfold putK; rw [if_pos hm]
        have e2 : putL ks vs key z = outTo ks vs key z j := by unfold putL; rw [if_pos hm, hkl]
        have E1 := Lib.hid e1
        have E2 := Lib.hid e2
        have HN := Lib.hid (HKO.out.below HAT.out.below)
        clear e1 e2 hm
        go_wp2
        go_ret2
        rw [E1.out, E2.out]
        exact ⟨a, a', c, c', by rw [hkl]; rfl, by rw [hkl]; exact HN.out, by rw [hkl]; exact HAT.out.own.base hB0, HAT.out.below⟩
      | false =>
        have hm : ¬ key ∈ ks := fun h => by simpa using HBB.out.2 h
        have e1 : putK ks key = ks ++ [key] := by unfold putK; rw [if_neg hm]
        have e2 : putL ks vs key z = outTo ks vs key z j ++ [z] := by unfold putL; rw [if_neg hm, hkl]
        have E1 := Lib.hid e1
        have E2 := Lib.hid e2
        have HLL : Hid ((outTo ks vs key z j).length = j) := Lib.hid (outTo_len _ _ _ _ _)
        have b1 : Below wr.heap.size wr (wr.alloc (.cells #[] 3)) := (Below.refl _ _).alloc (Nat.le_refl _) _
        have HA1 := Lib.hid (HAT.out.more b1)
        have HU1 : Hid (UnderZ wr 3 (.slice (some ⟨wr.heap.size, 0, none⟩) 0 0) [] (wr.alloc (.cells #[] 3))) := Lib.hid ⟨lit_empty wr _ _ (Nat.le_refl _), b1⟩
        have HK1 := Lib.hid ((HK.out.below HAT.out.below).below b1)
        have HKL := Lib.hid hkl
        clear e1 e2 hm b1
        go_upto_region 13 with (at_builtin; refine wpList_append_numbers _ rfl _ _ 40 3 rfl wr.heap.size i1 Try.underlying40 HI1.out hy0 hy1 hy2 (.slice (some ⟨wr.heap.size, 0, none⟩) 0 0) [] 0 rfl rfl HU1.out.own a j c ks rfl HK1.out (by omega) HU1.out.below.size ?_; intro a2 c2 w2 ho2 hg2; have HU2 := Lib.hid (HU1.out.grown ho2 hg2); clear ho2 hg2)
        try simp only [Act.put]
        rw [Nat.zero_add, List.nil_append] at HU2
        try rw [Nat.zero_add]
        have HA2 := Lib.hid (HAT.out.more HU2.out.below)
        have b3 : Below w2.heap.size w2 (w2.alloc (.cells #[.int .i64 key] 3)) := (Below.refl _ _).alloc (Nat.le_refl _) _
        have HU3 := Lib.hid (HU2.out.more b3)
        have HN3 := Lib.hid (numbers_one (heap_alloc_new w2 (.cells #[.int .i64 key] 3)) HKEY.out)
        clear b3
        go_upto_region 14 with (at_builtin; refine wpList_append_numbers _ rfl _ _ 40 3 rfl wr.heap.size i1 Try.underlying40 HI1.out hy0 hy1 hy2 (.slice a2 j c2) ks j HKL.out rfl HU3.out.own _ 1 1 [key] rfl HN3.out (by omega) HU3.out.below.size ?_; intro a4 c4 w4 ho4 hg4; have HU4 := Lib.hid (HU3.out.grown ho4 hg4); clear ho4 hg4)
        try simp only [Act.put]
        have HA4 := Lib.hid (HAT.out.more HU4.out.below)
        have hfr : ∀ x, a4 = some x → wr.heap.size ≤ x.block := fun x e => by subst e; exact (HU4.out.own.lt x.block rfl).1
        have hold : ∀ k, Value.ownBlock (.slice a' j c') = some k → k < wr.heap.size := fun k e => (HAT.out.own.lt k e).2
        have b5 : Below w4.heap.size w4 (w4.alloc (.cells #[.int .i64 z] 2)) := (Below.refl _ _).alloc (Nat.le_refl _) _
        have HA5 := Lib.hid (HA4.out.more b5)
        have HU5 := Lib.hid (HU4.out.more b5)
        have HN5 := Lib.hid (numbers_one (heap_alloc_new w4 (.cells #[.int .i64 z] 2)) HZ.out)
        have HFR := Lib.hid hfr
        have HOLD := Lib.hid hold
        clear b5 hfr hold
        go_wp2_with (at_builtin; refine wpList_append_numbers _ rfl _ _ 22 2 rfl w.heap.size i0 Try.underlying22 HI.out hz0 hz1 hz2 (.slice a' j c') (outTo ks vs key z j) j HLL.out rfl HA5.out.own _ 1 1 [z] rfl HN5.out (by omega) HA5.out.below.size ?_; intro a6 c6 w6 ho6 hg6; have HN6 := Lib.hid (HU5.out.own.kept hg6 (fun k e e2 => by have h1 := (HU5.out.own.lt k e).1; have h2 := HOLD.out _ e2; omega)); have HA6 := Lib.hid (HA5.out.grown ho6 hg6); clear ho6 hg6)
        go_ret2
        rw [E1.out, E2.out]
        have e3 : (ks ++ [key]).length = j + 1 := by rw [List.length_append, HKL.out]; rfl
        exact ⟨a4, a6, c4, c6, by rw [e3]; rfl, by rw [e3]; exact HN6.out.base (Nat.le_trans hB0 HAT.out.below.size), by rw [e3]; exact HA6.out.own.base hB0, HA6.out.below⟩
/-- One key is given an amount. -/
def upd (F : Int → Int) (key z : Int) : Int → Int := fun k => if k = key then z else F k
theorem hasOf_none : ∀ (ks vs : List Int) (k : Int), ¬ k ∈ ks → hasOf ks vs k = 0
  | [], _, _, _ => rfl
  | a :: ks, [], _, _ => rfl
  | a :: ks, b :: vs, k, h => by
    have h1 : ¬ a = k := fun e => h (by simp [e])
    show (if a = k then b else hasOf ks vs k) = 0
    rw [if_neg h1]
    exact hasOf_none ks vs k (fun h' => h (by simp [h']))
theorem outTo_zip : ∀ (ks vs : List Int) (key z : Int), ks.length = vs.length → outTo ks vs key z ks.length = List.zipWith (fun k v => if k = key then z else v) ks vs := by
  intro ks vs key z hl
  apply List.ext_getElem
  · rw [outTo_len, List.length_zipWith, ← hl, Nat.min_self]
  · intro i h1 h2
    rw [outTo_len] at h1
    simp [outTo, List.getD, h1, show i < vs.length by omega]
theorem has_zip (key z : Int) : ∀ (ks vs : List Int) (k : Int), ks.length = vs.length → hasOf ks (List.zipWith (fun k v => if k = key then z else v) ks vs) k = if k ∈ ks then (if k = key then z else hasOf ks vs k) else 0
  | [], _, k, _ => by simp [hasOf]
  | a :: ks, [], k, h => by cases h
  | a :: ks, b :: vs, k, h => by
    have ih := has_zip key z ks vs k (by simpa using h)
    show (if a = k then (if a = key then z else b) else hasOf ks (List.zipWith _ ks vs) k) = if k ∈ a :: ks then (if k = key then z else (if a = k then b else hasOf ks vs k)) else 0
    rw [ih]
    by_cases e : a = k
    · subst e
      simp
    · simp [e, Ne.symm e]
theorem has_snoc (key z : Int) : ∀ (ks vs : List Int) (k : Int), ks.length = vs.length → hasOf (ks ++ [key]) (vs ++ [z]) k = if k ∈ ks then hasOf ks vs k else if key = k then z else 0
  | [], [], k, _ => by simp [hasOf]
  | [], _ :: _, k, h => by cases h
  | a :: ks, [], k, h => by cases h
  | a :: ks, b :: vs, k, h => by
    have ih := has_snoc key z ks vs k (by simpa using h)
    show (if a = k then b else hasOf (ks ++ [key]) (vs ++ [z]) k) = if k ∈ a :: ks then (if a = k then b else hasOf ks vs k) else if key = k then z else 0
    rw [ih]
    by_cases e : a = k
    · subst e
      simp
    · simp [e, Ne.symm e]
theorem has_put (ks vs : List Int) (key z : Int) (hl : ks.length = vs.length) : hasOf (putK ks key) (putL ks vs key z) = upd (hasOf ks vs) key z := by
  funext k
  unfold putK putL upd
  rw [outTo_zip ks vs key z hl]
  by_cases hm : key ∈ ks
  · rw [if_pos hm, if_pos hm, has_zip key z ks vs k hl]
    by_cases hk : k ∈ ks
    · rw [if_pos hk]
    · rw [if_neg hk, if_neg (fun e : k = key => hk (by rw [e]; exact hm)), hasOf_none ks vs k hk]
  · rw [if_neg hm, if_neg hm, has_snoc key z ks _ k (by rw [List.length_zipWith, ← hl, Nat.min_self]), has_zip key z ks vs k hl]
    by_cases hk : k ∈ ks
    · rw [if_pos hk, if_pos hk]
    · rw [if_neg hk, hasOf_none ks vs k hk]
      by_cases e : key = k
      · rw [if_pos e, if_pos e.symm]
      · rw [if_neg e, if_neg (Ne.symm e)]
theorem put_len (ks vs : List Int) (key z : Int) : (putK ks key).length = (putL ks vs key z).length ∧ (putK ks key).length ≤ ks.length + 1 := by
  unfold putK putL
  split <;> simp [outTo_len]
theorem put_nodup (ks : List Int) (key : Int) (h : ks.Nodup) : (putK ks key).Nodup := by
  unfold putK
  split
  · exact h
  · rename_i hm
    rw [List.nodup_append]
    refine ⟨h, by simp, fun a ha b hb => ?_⟩
    simp at hb
    subst hb
    exact fun e => hm (e ▸ ha)
theorem has_at : ∀ (ks vs : List Int) (i : Nat), ks.Nodup → i < ks.length → ks.length = vs.length → hasOf ks vs (ks.getD i 0) = vs.getD i 0
  | [], _, i, _, h, _ => by cases h
  | a :: ks, [], i, _, _, h => by cases h
  | a :: ks, b :: vs, 0, _, _, _ => by simp [hasOf]
  | a :: ks, b :: vs, i + 1, hn, hi, hl => by
    have hn' := List.nodup_cons.1 hn
    have hi' : i < ks.length := by simpa using hi
    have ih := has_at ks vs i hn'.2 hi' (by simpa using hl)
    have e : (a :: ks).getD (i + 1) 0 = ks.getD i 0 := by simp [List.getD]
    have e2 : (b :: vs).getD (i + 1) 0 = vs.getD i 0 := by simp [List.getD]
    have hm : ks.getD i 0 ∈ ks := by simp [List.getD, hi']
    rw [e, e2]
    show (if a = ks.getD i 0 then b else hasOf ks vs (ks.getD i 0)) = _
    rw [if_neg (fun e : a = ks.getD i 0 => hn'.1 (by rw [e]; exact hm)), ih]
end Go.Proofs.Ytdgcekkaiaehaaa
