/- What tx.Keys comes to: the keys that signed. What a transaction that is a commitment of a channel looks like, plainly. No function of the program is named. The part of a commitment's owner, where it lies; what Check tells of a transaction that would take it, plainly. No function of the program is named. What the code's together comes to. What the code's Ref comes to. What the code's Check of package justice comes to. Transactions of the same bytes say the same, and are checked alike (chapter 15). No function of the program is named. -/
import Derived.Test.YtcmdpmialehjgaaGreatDoorTx
import Derived.Test.YtcmdpmialehjgaaGreatDoorTxGets
import Derived.Test.YtcmdpmialehjgaaGreatDoorOwner
import Derived.Test.YtcmdpmialehjgaaGreatDoorLockx
import Derived.Test.YtcmdpmialehjgaaGreatDoorOwnZ
import Derived.Test.YtcmdpmialehjgaaGreatDoorCommit
import Derived.Test.YtcmdpmialehjgaaGreatDoorSteps
import Derived.Deep.CutRange
namespace Go.Proofs.YtcmdpmialehjgaaGreatDoor
open Go.RowKit

/-- The keys of the signs of a sum. -/
def keysBy (s : List UInt8) : List PSign → List Int
  | [] => []
  | x :: xs => if x.sum = s then x.key :: keysBy s xs else keysBy s xs
theorem keysBy_append (s : List UInt8) : ∀ u v : List PSign, keysBy s (u ++ v) = keysBy s u ++ keysBy s v
  | [], _ => rfl
  | x :: u, v => by
    rw [List.cons_append, keysBy, keysBy, keysBy_append s u v]
    split <;> rfl
theorem keysBy_take {s : List UInt8} {xs : List PSign} {k : Nat} (h : k < xs.length) : keysBy s (xs.take (k + 1)) = if (xs.getD k noSign).sum = s then keysBy s (xs.take k) ++ [(xs.getD k noSign).key] else keysBy s (xs.take k) := by
  rw [take_getD (d := noSign) h, keysBy_append]
  simp only [keysBy]
  split <;> simp
theorem keysBy_len {s : List UInt8} : ∀ xs : List PSign, (keysBy s xs).length ≤ xs.length
  | [] => Nat.le_refl _
  | x :: xs => by
    have := keysBy_len (s := s) xs
    rw [keysBy]
    split <;> simp only [List.length_cons] <;> omega
set_option linter.unusedSimpArgs false in
set_option maxRecDepth 100000 in
set_option maxHeartbeats 12800000 in
theorem txKeys_any {w : World} {x : PTx} (h : TxIn w x) (hk : KsAt w) (hf : FrontFew false x) (hs : x.sn ≤ 1000) : Calls Tryz.prog 52 #[.agg x.cells.toArray] w fun e w' => ∃ (a : Option Addr) (n c : Nat), e = .returned (.slice a n c) ∧ Numbers w' a n c (keysBy (txSum x) x.signs) ∧ Below w.heap.size w w' := by
  obtain ⟨S, hS, hSl, hsum⟩ : ∃ S, txSum x = S ∧ S.length = 32 ∧ ∀ W : World, Below w.heap.size w W → Calls Tryz.prog 34 #[.agg x.cells.toArray] W fun e w' => e = .returned (.agg (cellsOf S).toArray) ∧ Below W.heap.size W w' := ⟨_, rfl, txSum_len x, fun W hW => txSum_any (h.below hW) (hk.below hW) hf⟩
  rw [hS]
  have b1 : Below w.heap.size w (w.alloc (.cells x.cells.toArray 56)) := (Below.refl _ _).alloc (Nat.le_refl _) _
  have h1 := heap_alloc_new w (.cells x.cells.toArray 56)
  have HSUM := Lib.hid hsum
  have HSL := Lib.hid hSl
  have AX := Lib.hid (tx_sizeA h.op.root)
  have HRO := Lib.hid h.op.root
  have H := Lib.hid h
  have SS := Lib.hid (size_of hSl)
  have SSL := Lib.hid (sumLen hSl)
  have SZ : Hid ((cellsOf zero32).toArray.size = (cellsOf S).toArray.size) := Lib.hid (by rw [List.size_toArray, List.size_toArray, cellsOf_len, cellsOf_len, hSl]; exact zero32_len)
  clear h hk hf hS hSl hsum
  go_enter Tryz.func52, Tryz.ntmps52
  go_upto_region 1 with (fail)
  revert b1 h1
  generalize (w.alloc (.cells x.cells.toArray 56)) = w1
  obtain ⟨g, hg⟩ : ∃ g, g = w.heap.size := ⟨_, rfl⟩
  rw [← hg]
  intro b1 h1
  rw [hg] at b1
  have HB1 := Lib.hid b1
  have HG := Lib.hid h1
  have hlt := lt_of_block h1
  clear b1 h1 hg
  go_wp2_with (first | (refine wpList_load_row rfl 56 _ rfl g rfl 56 x.cells.toArray (0, 0) _ HG.out Tryz.underlying56 rfl AX.out ?_) | fail)
  refine (HSUM.out _ HB1.out).mono ?_
  rintro e w2 ⟨rfl, hb2⟩
  have HB2 := Lib.hid (HB1.out.trans (hb2.mono HB1.out.size))
  have HG2 := Lib.hid ((hb2.block g hlt).trans HG.out)
  have hlt2 : g < w2.heap.size := Nat.lt_of_lt_of_le hlt hb2.size
  clear hb2 HSUM HB1 HG hlt
  go_upto_region 2 with (first | (refine wpList_store_row rfl 23 _ _ rfl w2.heap.size (cellsOf S).toArray rfl rfl 23 (cellsOf zero32).toArray (heap_alloc_new _ _) SS.out SZ.out (all_oneCell_toArray (cellsOf_one S)) ?_) | fail)
  rw [← zero32_is, laySum_is]
  have h3 := laySum_heap w2 S
  have b3 := laySum_self w2 S
  revert h3 b3
  generalize laySum w2 S = w3
  obtain ⟨g3, hg3⟩ : ∃ g, g = w2.heap.size := ⟨_, rfl⟩
  rw [← hg3]
  intro h3 b3
  rw [hg3] at b3
  have HB3 := Lib.hid (HB2.out.trans (b3.mono HB2.out.size))
  have hlt3 := lt_of_block h3
  have H3 := Lib.hid h3
  have HG3 := Lib.hid ((b3.block g hlt2).trans HG2.out)
  have hg23 : g < w3.heap.size := Nat.lt_of_lt_of_le hlt2 b3.size
  have HTX := Lib.hid (H.out.below HB3.out)
  obtain ⟨A, hA⟩ : ∃ A, A = x.sa := ⟨_, rfl⟩
  have HA := Lib.hid hA
  have c39 : w3.cell? ⟨g, 39, none⟩ = some (.slice A x.sn x.sc) := by
    have h9 := tx_signs HRO.out (range_of HG3.out)
    rw [Nat.zero_add] at h9
    rw [hA]
    exact h9
  have hs63 : (x.sn : Int) ≤ 9223372036854775807 := by omega
  clear h3 b3 hg3 hA HB2 HG2 hlt2
  try simp only [Act.put]
  go_upto_region 4 with (fail)
  clear c39
  go_loopw [4, 12] (fun v i wr => ∃ (k : Nat) (ks : List Int), k ≤ x.sn ∧ i = .int .i64 k ∧ ks = keysBy S (x.signs.take k) ∧ OwnZ wr 3 w3.heap.size v ks ∧ Below w3.heap.size w3 wr) (fun _ i _ => x.sn - (intOf i).toNat)
  case atStart => exact ⟨0, [], Nat.zero_le _, rfl, rfl, OwnZ.nil _ _ _, Below.refl _ _⟩
  case round =>
    obtain ⟨k, ks, hk, rfl, hks, hown, hbr⟩ := hrel
    have HKS := Lib.hid hks
    have HOWN := Lib.hid hown
    have HBR := Lib.hid hbr
    obtain ⟨va, vc, rfl, _⟩ := hown.shape
    have hkl1000 : ks.length ≤ 1000 := by
      have h9 := keysBy_len (s := S) (x.signs.take k)
      rw [← hks, List.length_take] at h9
      omega
    clear hks hown hbr
    by_cases hkn : k < x.sn
    · have f1 : (k : Int) < (x.sn : Int) := by omega
      have f0 : (0 : Int) ≤ (k : Int) := by omega
      have ft : ((k : Int)).toNat = k := by omega
      have hkl : k < x.signs.length := by rw [HTX.out.signs.1]; exact hkn
      have hsg := HTX.out.signs.below HBR.out
      obtain ⟨b1, o1, e1, hltb, hc1⟩ := hsg.2.2.2.2.2 (by omega)
      have hrx : wr.rangeAt b1 (o1 + k * 33) (x.signs.getD k noSign).cells := hc1 k hkn
      have hy1 : SignIn (x.signs.getD k noSign) := hsg.get hkn
      have hnx := keysBy_take (s := S) hkl
      rw [← HKS.out] at hnx
      revert hrx hy1 hnx
      generalize x.signs.getD k noSign = y
      intro hrx hy1 hnx
      obtain ⟨r, hr⟩ : ∃ r, decide (y.sum = S) = r := ⟨_, rfl⟩
      have q : ∀ W : World, (Op.equalIn 10000 23 (.agg (cellsOf y.sum).toArray) (.agg (cellsOf S).toArray)).run Tryz.prog W = .ok r W := fun W => by rw [← hr]; exact run_eqSums _ _ hy1.sum HSL.out W
      have RY := Lib.hid hrx
      have SSM := Lib.hid (sumLen hy1.sum)
      have SY := Lib.hid (sign_size hy1.sum)
      have AY := Lib.hid (sign_sizeA hy1.sum)
      have ZY : Hid (noSign.cells.toArray.size = y.cells.toArray.size) := Lib.hid (by rw [List.size_toArray, List.size_toArray, PSign.len hy1.sum]; rfl)
      have HFK := Lib.hid hy1.key
      have HNX := Lib.hid hnx
      have HR := Lib.hid hr
      rw [← HA.out] at e1
      subst e1
      clear hc1 hrx hy1 hnx hkl hsg hr
      go_upto_region 6 with (first | (refine wpList_load_mid rfl 143 _ rfl b1 (o1 + k * 33) rfl y.cells _ RY.out Tryz.underlying143 rfl SY.out ?_) | (refine wpList_store_row rfl 143 _ _ rfl wr.heap.size y.cells.toArray rfl rfl 143 noSign.cells.toArray (heap_alloc_new _ _) AY.out ZY.out (all_oneCell_toArray y.one) ?_) | fail)
      rw [← noSign_is, layT_is]
      have h5 := layT_heap 143 noSign.cells wr y.cells
      have b5 := layT_self 143 noSign.cells wr y.cells
      revert h5 b5
      generalize layT 143 noSign.cells wr y.cells = w5
      obtain ⟨g5, hg5⟩ : ∃ g5, g5 = wr.heap.size := ⟨_, rfl⟩
      rw [← hg5]
      intro h5 b5
      rw [hg5] at b5
      have H5 := Lib.hid h5
      have HB5 := Lib.hid (HBR.out.trans (b5.mono HBR.out.size))
      have HO5 := Lib.hid (HOWN.out.below b5)
      have c0 : w5.cell? ⟨g5, 0, none⟩ = some (.int .i64 y.key) := sign_key (range_of h5)
      have RM := Lib.hid (show w5.rangeAt g5 1 (cellsOf y.sum) by have h9 := sign_sum (range_of h5); rw [Nat.zero_add] at h9; exact h9)
      have RS3 := Lib.hid (range_of ((HB5.out.block g3 hlt3).trans H3.out))
      clear h5 b5 hg5 RY HBR HOWN
      try simp only [Act.put]
      cases r
      · have hn : keysBy S (x.signs.take (k + 1)) = ks := by rw [HNX.out, if_neg (of_decide_eq_false HR.out)]
        have HN := Lib.hid hn
        clear hn HNX HKS HR
        go_wp2_with (first | (refine wpList_load_mid rfl 23 _ rfl g5 1 rfl (cellsOf y.sum) _ RM.out Tryz.underlying23 rfl SSM.out ?_) | (refine wpList_load_mid rfl 23 _ rfl g3 0 rfl (cellsOf S) _ RS3.out Tryz.underlying23 rfl SSL.out ?_) | fail)
        go_roundw
        case rel => exact ⟨k + 1, ks, by omega, by go_num, HN.out.symm, HO5.out, HB5.out⟩
        case measure => simp [intOf]; omega
      · have hn : keysBy S (x.signs.take (k + 1)) = ks ++ [y.key] := by rw [HNX.out, if_pos (of_decide_eq_true HR.out)]
        have HN := Lib.hid hn
        clear hn HNX HKS HR
        go_upto_region 7 with (first | (refine wpList_load_mid rfl 23 _ rfl g5 1 rfl (cellsOf y.sum) _ RM.out Tryz.underlying23 rfl SSM.out ?_) | (refine wpList_load_mid rfl 23 _ rfl g3 0 rfl (cellsOf S) _ RS3.out Tryz.underlying23 rfl SSL.out ?_) | fail)
        have b6 : Below w5.heap.size w5 (w5.alloc (.cells #[.int .i64 y.key] 3)) := (Below.refl _ _).alloc (Nat.le_refl _) _
        have HO6 := Lib.hid (HO5.out.below b6)
        have HB6 := Lib.hid (HB5.out.trans (b6.mono HB5.out.size))
        have HN1 := Lib.hid (numbers_one (heap_alloc_new w5 (.cells #[.int .i64 y.key] 3)) HFK.out)
        obtain ⟨ie, i1, hz0, hz1, hz2⟩ := info_parts (show (Tryz.prog.info? 3).map (fun i => (i.zero, i.size, i.bytes)) = some (some (.int .i64 0), 1, 8) by kernel_rfl)
        have HI := Lib.hid i1
        clear b6 i1
        go_wp2_with (at_builtin; refine wpList_append_numbers _ rfl _ _ 80 3 rfl w3.heap.size ie Tryz.underlying80 HI.out hz0 hz1 hz2 (.slice va ks.length vc) ks ks.length rfl rfl HO6.out _ 1 1 [y.key] rfl HN1.out (by omega) HB6.out.size ?_; intro a8 c8 w8 ho8 hg8; have HO8 := Lib.hid ho8; have HB8 := Lib.hid (HB6.out.trans (HO6.out.grows hg8 HB6.out.size)); clear ho8 hg8)
        go_roundw
        case rel => exact ⟨k + 1, ks ++ [y.key], by omega, by go_num, HN.out.symm, HO8.out, HB8.out⟩
        case measure => simp [intOf]; omega
    · obtain rfl : k = x.sn := by omega
      have f1 : ¬ ((x.sn : Int) < (x.sn : Int)) := by omega
      have htk : x.signs.take x.sn = x.signs := List.take_of_length_le (by rw [HTX.out.signs.1]; exact Nat.le_refl _)
      have HKS2 : Hid (ks = keysBy S x.signs) := Lib.hid (by rw [HKS.out, htk])
      clear htk HKS
      go_wp2_with fail
      go_ret
      exact ⟨va, _, vc, rfl, by rw [← HKS2.out]; exact HOWN.out.numbers, HB3.out.trans (HBR.out.mono HB3.out.size)⟩
end Go.Proofs.YtcmdpmialehjgaaGreatDoor
namespace Go.Proofs.YtcmdpmialehjgaaGreatDoor
open Go.RowKit

theorem alikeW_parts {x y : PWay} (h : alikeW x y = true) : x.ks = y.ks ∧ x.h = y.h ∧ x.after = y.after ∧ x.wait = y.wait := by
  simpa [alikeW, Bool.and_eq_true] using h
/-- The outs of a commitment of one that owns it, and the other one. -/
structure CommitLike (c : PChan) (me other : Int) (x0 x1 : POut) (u0 u1 v : PWay) : Prop where
  w0 : x0.ws = [u0, u1]
  w1 : x1.ws = [v]
  k0 : u0.ks = [me]
  h0 : u0.h = zero32
  a0 : u0.after = 0
  t0 : u0.wait = c.wait
  k1 : u1.ks = [other]
  h1 : u1.h ≠ zero32
  a1 : u1.after = 0
  t1 : u1.wait = 0
  kv : v.ks = [other]
  hv : v.h = zero32
  av : v.after = 0
  tv : v.wait = 0
def meP (c : PChan) (k : Nat) : Int := if k = 0 then c.client else c.peer
def otherP (c : PChan) (k : Nat) : Int := if k = 0 then c.peer else c.client
theorem wantP_is (c : PChan) {k : Nat} (hk : k = 0 ∨ k = 1) (m0 m1 : Int) (h : List UInt8) : wantP c k m0 m1 h = [ownP c none none none (meP c k) (otherP c k) m0 h, herP none none (otherP c k) m1] := by
  rcases hk with rfl | rfl <;> rfl
theorem hasP_shape {c : PChan} {k : Nat} {xs : List POut} (hk : k = 0 ∨ k = 1) (h : hasP c k xs = true) : ∃ x0 x1 u0 u1 v, xs = [x0, x1] ∧ CommitLike c (meP c k) (otherP c k) x0 x1 u0 u1 v := by
  have hl : xs.length = 2 := by
    by_cases e : xs.length = 2
    · exact e
    · rw [hasP_len e] at h
      cases h
  obtain ⟨x0, x1, rfl⟩ := two_list hl
  have hw : x0.ws.length = 2 := by
    by_cases e : x0.ws.length = 2
    · exact e
    · rw [hasP_ways e] at h
      cases h
  obtain ⟨m0, wa, wn, wc, ws⟩ := x0
  obtain ⟨u0, u1, rfl⟩ := two_list hw
  obtain ⟨m1, va, vn, vc, vs⟩ := x1
  have h9 : (!decide (u1.h = zero32) && alikeOs [⟨m0, wa, wn, wc, [u0, u1]⟩, ⟨m1, va, vn, vc, vs⟩] (wantP c k m0 m1 u1.h)) = true := h
  rw [wantP_is c hk] at h9
  have h8 : (!decide (u1.h = zero32) && (((decide (m0 = m0) && (alikeW u0 ⟨none, 1, 1, [meP c k], zero32, 0, c.wait⟩ && (alikeW u1 ⟨none, 1, 1, [otherP c k], u1.h, 0, 0⟩ && true))) && ((decide (m1 = m1) && alikeWs vs [⟨none, 1, 1, [otherP c k], zero32, 0, 0⟩]) && true)))) = true := h9
  simp only [Bool.and_eq_true, Bool.not_eq_true', decide_eq_false_iff_not] at h8
  obtain ⟨hz, ⟨⟨_, q0, q1, _⟩, ⟨_, qv⟩, _⟩⟩ := h8
  have hv1 : vs.length = 1 := by
    by_cases e : vs.length = 1
    · exact e
    · rw [alikeWs_len (by simpa using e)] at qv
      cases qv
  obtain ⟨v, rfl⟩ : ∃ v, vs = [v] := by
    match vs, hv1 with
    | [v], _ => exact ⟨v, rfl⟩
  have h7 : (alikeW v ⟨none, 1, 1, [otherP c k], zero32, 0, 0⟩ && true) = true := qv
  rw [Bool.and_true] at h7
  obtain ⟨a1, a2, a3, a4⟩ := alikeW_parts q0
  obtain ⟨b1, _, b3, b4⟩ := alikeW_parts q1
  obtain ⟨d1, d2, d3, d4⟩ := alikeW_parts h7
  exact ⟨_, _, u0, u1, v, rfl, ⟨rfl, rfl, a1, a2, a3, a4, b1, hz, b3, b4, d1, d2, d3, d4⟩⟩
/-- Whose commitment it is, and what that says. -/
theorem ownerP_cases (c : PChan) (t : PTx) : ownerP c t = -1 ∨ ∃ k : Nat, (k = 0 ∨ k = 1) ∧ ownerP c t = (k : Int) ∧ keysOk c = true ∧ t.op.kind = 0 ∧ fundsP c t = true ∧ ∃ x0 x1 u0 u1 v, t.outs = [x0, x1] ∧ CommitLike c (meP c k) (otherP c k) x0 x1 u0 u1 v := by
  cases hk : keysOk c
  · exact .inl (ownerP_keys hk)
  · by_cases h1 : t.op.kind = 0
    · cases hf : fundsP c t
      · exact .inl (ownerP_funds hf)
      · have e : ownerP c t = if hasP c 0 t.outs then 0 else if hasP c 1 t.outs then 1 else -1 := by unfold ownerP; rw [hk, hf, decide_eq_true h1]; rfl
        cases h5 : hasP c 0 t.outs
        · cases h6 : hasP c 1 t.outs
          · exact .inl (by rw [e, h5, h6]; rfl)
          · exact .inr ⟨1, .inr rfl, by rw [e, h5, h6]; rfl, rfl, h1, rfl, hasP_shape (.inr rfl) h6⟩
        · exact .inr ⟨0, .inl rfl, by rw [e, h5]; rfl, rfl, h1, rfl, hasP_shape (.inl rfl) h5⟩
    · exact .inl (ownerP_kind h1)
end Go.Proofs.YtcmdpmialehjgaaGreatDoor
namespace Go.Proofs.YtcmdpmialehjgaaGreatDoor
open Go.RowKit

/-- The amounts of outs. -/
def sumsOf (xs : List POut) : List Int := xs.map POut.m
theorem sumsOf_take {xs : List POut} {k : Nat} (h : k < xs.length) : sumsOf (xs.take (k + 1)) = sumsOf (xs.take k) ++ [(xs.getD k noOut).m] := by
  unfold sumsOf
  rw [take_getD (d := noOut) h, List.map_append]
  rfl
theorem sumsOf_len (xs : List POut) : (sumsOf xs).length = xs.length := by simp [sumsOf]
/-- The part of a commitment's owner, as it lies in memory. -/
structure PartAt (w : World) (t : PTx) (m z : Int) (b o b2 o2 wc : Nat) (u0 u1 : PWay) (x1 : POut) : Prop where
  outs : t.outs = [twoO m (some ⟨b2, o2, none⟩) wc u0 u1, x1]
  oa : t.oa = some ⟨b, o, none⟩
  on : t.on = 2
  fit : Fits m
  way : WayIn w u1
  ks : u1.ks = [z]
  kn : u1.n = 1
  z0 : 0 ≤ z
  z1 : z ≤ 255
  after : u1.after = 0
  wait : u1.wait = 0
  lb : b < w.heap.size
  lb2 : b2 < w.heap.size
  out : w.rangeAt b o (POut.cells (twoO m (some ⟨b2, o2, none⟩) wc u0 u1))
  at2 : w.rangeAt b2 (o2 + 35) u1.cells
theorem PartAt.below {w w' : World} {t : PTx} {m z : Int} {b o b2 o2 wc : Nat} {u0 u1 : PWay} {x1 : POut} (h : PartAt w t m z b o b2 o2 wc u0 u1 x1) (hb : Below w.heap.size w w') : PartAt w' t m z b o b2 o2 wc u0 u1 x1 :=
  ⟨h.outs, h.oa, h.on, h.fit, h.way.below hb, h.ks, h.kn, h.z0, h.z1, h.after, h.wait, Nat.lt_of_lt_of_le h.lb hb.size, Nat.lt_of_lt_of_le h.lb2 hb.size, rangeAt_below h.out h.lb hb, rangeAt_below h.at2 h.lb2 hb⟩
/-- A commitment has one. -/
theorem part_at {w : World} {c : PChan} {t : PTx} (ht : TxIn w t) (h : ownerP c t ≠ -1) : ∃ m z b o b2 o2 wc u0 u1 x1, PartAt w t m z b o b2 o2 wc u0 u1 x1 := by
  rcases ownerP_cases c t with e | ⟨k, hk, _, hko, _, _, x0, x1, u0, u1, v, e, cl⟩
  · exact absurd e h
  · have ho := ht.outs
    rw [e] at ho
    have hon : t.on = 2 := ho.1.symm
    have i0 : OutIn w x0 := ho.2.2.2.2.1 _ (by simp)
    obtain ⟨b, o, eb, hlt, hcells⟩ := ho.2.2.2.2.2 (by omega)
    have r0 : w.rangeAt b o x0.cells := by have h9 := hcells 0 (by omega); rw [Nat.zero_mul] at h9; exact h9
    obtain ⟨m, wa, wn, wc, ws⟩ := x0
    have hw0 : ws = [u0, u1] := cl.w0
    subst hw0
    have hwn : wn = 2 := i0.ws.1.symm
    subst hwn
    obtain ⟨b2, o2, ew, hlt2, hcells2⟩ := i0.ws.2.2.2.2.2 (by show 0 < 2; omega)
    replace ew : wa = some ⟨b2, o2, none⟩ := ew
    subst ew
    have r2 : w.rangeAt b2 (o2 + 35) u1.cells := by have h9 := hcells2 1 (by show 1 < 2; omega); exact h9
    have hwi : WayIn w u1 := i0.ws.2.2.2.2.1 _ (by simp)
    have hz : 0 ≤ otherP c k ∧ otherP c k ≤ 255 := by
      have h9 := of_decide_eq_true hko
      rcases hk with rfl | rfl
      · exact ⟨h9.2.2.1, h9.2.2.2⟩
      · exact ⟨h9.1, h9.2.1⟩
    have hkn : u1.n = 1 := by have h9 := hwi.keys.1; rw [cl.k1] at h9; exact h9.symm
    exact ⟨m, otherP c k, b, o, b2, o2, wc, u0, u1, x1, ⟨e, eb, hon, i0.m, hwi, cl.k1, hkn, hz.1, hz.2, cl.a1, cl.t1, hlt, hlt2, r0, r2⟩⟩
/-- What Check tells behind its ins. -/
def passR (m : Int) (u : PWay) (ks : List Int) (pre : List UInt8) (outs : List POut) : Int :=
  if opensW u ks pre 0 0 then (if (addFrom 0 (sumsOf outs)).2 = 0 then (if m < (addFrom 0 (sumsOf outs)).1 then 14 else 0) else (addFrom 0 (sumsOf outs)).2) else 12
/-- What Check tells of a transaction, where the first one is a commitment: m is its owner's part, u what it is taken by, T its sum. -/
def checkR (m : Int) (u : PWay) (T : List UInt8) (j : PTx) : Int :=
  if txOk j && (decide (j.inn = 1) && decide (j.op.kind = 0)) then
    (match j.ins with
    | [x] => if (decide (x.tx = T) && decide (x.place = 0)) && decide (x.way = 1) then passR m u (keysBy (txSum j) j.signs) x.pre j.outs else 13
    | _ => 1)
  else 1
theorem checkR_right {m : Int} {u : PWay} {T : List UInt8} {j : PTx} (h : txOk j = false) : checkR m u T j = 1 := by unfold checkR; rw [h]; rfl
theorem checkR_len {m : Int} {u : PWay} {T : List UInt8} {j : PTx} (h : j.inn ≠ 1) : checkR m u T j = 1 := by unfold checkR; rw [decide_eq_false h]; simp
theorem checkR_kind {m : Int} {u : PWay} {T : List UInt8} {j : PTx} (h : j.op.kind ≠ 0) : checkR m u T j = 1 := by unfold checkR; rw [decide_eq_false h]; simp
theorem checkR_one {m : Int} {u : PWay} {T : List UInt8} {j : PTx} {x : PIn} (h1 : txOk j = true) (h2 : j.inn = 1) (h3 : j.op.kind = 0) (h4 : j.ins = [x]) :
    checkR m u T j = if (decide (x.tx = T) && decide (x.place = 0)) && decide (x.way = 1) then passR m u (keysBy (txSum j) j.signs) x.pre j.outs else 13 := by
  unfold checkR
  rw [h1, decide_eq_true h2, decide_eq_true h3, h4]
  rfl
theorem one_in15 {w : World} {j : PTx} (hj : TxIn w j) (h : j.inn = 1) : ∃ x b o, j.ins = [x] ∧ j.ia = some ⟨b, o, none⟩ ∧ InIn w x ∧ b < w.heap.size ∧ w.rangeAt b o x.cells := by
  have hi := hj.ins
  rw [h] at hi
  obtain ⟨x, e⟩ : ∃ x, j.ins = [x] := by
    have h9 := hi.1
    match j.ins, h9 with
    | [x], _ => exact ⟨x, rfl⟩
  rw [e] at hi
  obtain ⟨b, o, eb, hlt, hc⟩ := hi.2.2.2.2.2 (by omega)
  have r0 : w.rangeAt b o x.cells := by have h9 := hc 0 (by omega); rw [Nat.zero_mul] at h9; exact h9
  exact ⟨x, b, o, e, eb, hi.2.2.2.2.1 x (by simp), hlt, r0⟩
end Go.Proofs.YtcmdpmialehjgaaGreatDoor
namespace Go.Proofs.YtcmdpmialehjgaaGreatDoor
open Go.RowKit

set_option linter.unusedSimpArgs false in
set_option maxRecDepth 100000 in
set_option maxHeartbeats 6400000 in
theorem together_any {w : World} {a : Option Addr} {n c : Nat} {xs : List POut} (h : SliceOf outK w a n c xs) (hn : n ≤ 1000) :
    Calls Tryz.prog 53 #[.slice a n c] w fun e w' => e = .returned (.tuple #[.int .i64 (addFrom 0 (sumsOf xs)).1, .int .i64 (addFrom 0 (sumsOf xs)).2]) ∧ Below w.heap.size w w' := by
  have n63 := h.len63
  have HS := Lib.hid h
  obtain ⟨A1, A2, hA⟩ : ∃ A1 A2, addFrom 0 (sumsOf xs) = (A1, A2) := ⟨_, _, rfl⟩
  rw [hA]
  have HA := Lib.hid hA
  clear h hA
  go_enter Tryz.func53, Tryz.ntmps53
  go_upto_region 3 with (fail)
  go_loopw [4, 9] (fun v i wr => ∃ (k : Nat) (ks : List Int), k ≤ n ∧ i = .int .i64 k ∧ ks = sumsOf (xs.take k) ∧ OwnZ wr 2 w.heap.size v ks ∧ Below w.heap.size w wr) (fun _ i _ => n - (intOf i).toNat)
  case atStart => exact ⟨0, [], Nat.zero_le _, rfl, rfl, OwnZ.nil _ _ _, Below.refl _ _⟩
  case round =>
    obtain ⟨k, ks, hk, rfl, hks, hown, hbr⟩ := hrel
    have HKS := Lib.hid hks
    have HOWN := Lib.hid hown
    have HBR := Lib.hid hbr
    obtain ⟨va, vc, rfl, _⟩ := hown.shape
    have hkl1000 : ks.length ≤ 1000 := by
      rw [hks, sumsOf_len, List.length_take]
      omega
    clear hks hown hbr
    by_cases hkn : k < n
    · have f1 : (k : Int) < (n : Int) := by omega
      have f0 : (0 : Int) ≤ (k : Int) := by omega
      have ft : ((k : Int)).toNat = k := by omega
      have hsg := HS.out.below HBR.out
      have hkl : k < xs.length := by rw [hsg.1]; exact hkn
      obtain ⟨b1, o1, e1, hltb, hc1⟩ := hsg.2.2.2.2.2 (by omega)
      have hrx : wr.rangeAt b1 (o1 + k * 2) (xs.getD k noOut).cells := hc1 k hkn
      have hy1 : OutIn wr (xs.getD k noOut) := hsg.get hkn
      have hnx := sumsOf_take hkl
      rw [← HKS.out] at hnx
      revert hrx hy1 hnx
      generalize xs.getD k noOut = y
      intro hrx hy1 hnx
      have RY := Lib.hid hrx
      have SY : Hid ((Tryz.prog.info? 79).map (·.size) = some y.cells.length) := Lib.hid Tryz.sizeOut
      have HFK := Lib.hid hy1.m
      have HNX := Lib.hid hnx
      subst e1
      clear hc1 hrx hy1 hnx hkl hsg
      go_upto_region 5 with (first | (refine wpList_load_mid rfl 79 _ rfl b1 (o1 + k * 2) rfl y.cells _ RY.out Tryz.underlying79 rfl SY.out ?_) | (refine wpList_var rfl rfl 79 rfl _ _ rfl noOut.cells.toArray Tryz.zeroOut14 rfl y.cells (fun _ => rfl) (fun _ => rfl) rfl (POut.one _) ?_; intro g5 w5 hq hh hb; go_frame; have HH5 := Lib.hid hh; have HB5 := Lib.hid (bthen HBR.out hb); have HO5 := Lib.hid (HOWN.out.below hb); clear hq hh hb) | fail)
      have c0 : w5.cell? ⟨g5, 0, none⟩ = some (.int .i64 y.m) := (range_cons (range_of HH5.out)).1
      clear HH5 RY HBR HOWN
      have b6 : Below w5.heap.size w5 (w5.alloc (.cells #[.int .i64 y.m] 2)) := (Below.refl _ _).alloc (Nat.le_refl _) _
      have HO6 := Lib.hid (HO5.out.below b6)
      have HB6 := Lib.hid (bthen HB5.out b6)
      have HN1 := Lib.hid (numbers_one (heap_alloc_new w5 (.cells #[.int .i64 y.m] 2)) HFK.out)
      obtain ⟨ie, i1, hz0, hz1, hz2⟩ := info_parts (show (Tryz.prog.info? 2).map (fun i => (i.zero, i.size, i.bytes)) = some (some (.int .i64 0), 1, 8) by kernel_rfl)
      have HI := Lib.hid i1
      clear b6 i1
      go_wp2_with (at_builtin; refine wpList_append_numbers _ rfl _ _ 151 2 rfl w.heap.size ie Tryz.underlying151 HI.out hz0 hz1 hz2 (.slice va ks.length vc) ks ks.length rfl rfl HO6.out _ 1 1 [y.m] rfl HN1.out (by omega) HB6.out.size ?_; intro a8 c8 w8 ho8 hg8; have HO8 := Lib.hid ho8; have HB8 := Lib.hid (HB6.out.trans (HO6.out.grows hg8 HB6.out.size)); clear ho8 hg8)
      go_roundw
      case rel => exact ⟨k + 1, ks ++ [y.m], by omega, by go_num, HNX.out.symm, HO8.out, HB8.out⟩
      case measure => simp [intOf]; omega
    · obtain rfl : k = n := by omega
      have f1 : ¬ ((k : Int) < (k : Int)) := by omega
      have htk : xs.take k = xs := List.take_of_length_le (by rw [HS.out.1]; exact Nat.le_refl _)
      have hk2 : ks = sumsOf xs := by rw [HKS.out, htk]
      have hadd := add_any HOWN.out.numbers
      rw [hk2] at hadd
      rw [HA.out] at hadd
      have HADD := Lib.hid (show Calls Tryz.prog 79 #[.slice va (sumsOf xs).length vc] wr fun e w' => e = .returned (.tuple #[.int .i64 A1, .int .i64 A2]) ∧ Below wr.heap.size wr w' from hadd)
      subst hk2
      clear htk HKS hadd
      go_wp2_with (first | (go_at_call 79; (with_reducible refine (HADD.out).mono ?_); rintro e w9 ⟨rfl, hb⟩; have HB9 := Lib.hid (bthen HBR.out hb); clear hb) | fail)
      go_ret2
      exact ⟨rfl, HB9.out⟩
end Go.Proofs.YtcmdpmialehjgaaGreatDoor
namespace Go.Proofs.YtcmdpmialehjgaaGreatDoor
open Go.RowKit

theorem Tryz.refFields14 : ∃ fs, Tryz.prog.underlying 47 = some (.struct fs) ∧ ∀ w : World, ((fs.mapM fun (f : Field) => do pure (f.offset, ← sizeOf f.type)) : Sem (Array (Nat × Nat))).run Tryz.prog w = .ok #[(0, 32), (32, 1)] w := ⟨_, Tryz.underlying47, fun w => by kernel_rfl⟩
theorem Tryz.zeroRef14 : (Tryz.prog.info? 47).map (fun i => (i.zero, i.size, i.bytes)) = some (some (.agg (refCells zero32 0).toArray), 33, 40) := by kernel_rfl
theorem build_ref14 {s : List UInt8} (z : Int) (hl : s.length = 32) (w : World) : (Instr.build 47 ([(0, (.agg (cellsOf s).toArray : Value)), (1, .int .i64 z)] : List (Nat × Value)).toArray).run Tryz.prog w = .ok (.agg (refCells s z).toArray) w := by
  obtain ⟨fs, hu, hm⟩ := Tryz.refFields14
  refine run_build_of hu hm Tryz.zeroRef14 ?_ w
  rw [show ([(0, (.agg (cellsOf s).toArray : Value)), (1, .int .i64 z)] : List (Nat × Value)).toArray.toList = [(0, .agg (cellsOf s).toArray), (1, .int .i64 z)] from rfl, show refCells zero32 0 = cellsOf zero32 ++ ([.int .i64 0] : List Value) from rfl]
  rw [fill_step (off := 0) (n := 32) rfl (vs := cellsOf s) rfl (by rw [cellsOf_len, hl]) (by simp [cellsOf_len, zero32_len]), spl_head (by rw [cellsOf_len, cellsOf_len, hl, zero32_len])]
  rw [fill_step (off := 32) (n := 1) rfl (vs := [.int .i64 z]) rfl rfl (by simp [cellsOf_len, hl])]
  rw [show cellsOf s ++ ([.int .i64 0] : List Value) = cellsOf s ++ (([.int .i64 0] : List Value) ++ []) by simp, spl_at (by rw [cellsOf_len, hl]) (by rfl)]
  unfold Instr.fill
  simp [refCells]
set_option linter.unusedSimpArgs false in
set_option maxRecDepth 100000 in
set_option maxHeartbeats 6400000 in
theorem ref14_any {w : World} {x : PTx} (h : TxIn w x) (hk : KsAt w) (hf : FrontFew false x) : Calls Tryz.prog 41 #[.agg x.cells.toArray] w fun e w' => e = .returned (.agg (refCells (txSum x) 0).toArray) ∧ Below w.heap.size w w' := by
  obtain ⟨s, hs, hsl, hcon⟩ : ∃ s, txSum x = s ∧ s.length = 32 ∧ ∀ W : World, Below w.heap.size w W → Calls Tryz.prog 34 #[.agg x.cells.toArray] W fun e w' => e = .returned (.agg (cellsOf s).toArray) ∧ Below W.heap.size W w' := ⟨_, rfl, txSum_len x, fun W hW => txSum_any (h.below hW) (hk.below hW) hf⟩
  rw [hs]
  have HSL := Lib.hid hsl
  have HCON := Lib.hid hcon
  have AX := Lib.hid (tx_sizeA h.op.root)
  clear hs hsl hcon h hk hf
  go_enter Tryz.func41, Tryz.ntmps41
  go_upto_region 1 with (first | (refine wpList_new rfl 47 rfl (refCells zero32 0).toArray Tryz.zeroRef14 ?_; intro r w1 hr hh hb; go_frame) | fail)
  have b0 : Below w.heap.size w (w.alloc (.cells x.cells.toArray 56)) := (Below.refl _ _).alloc (Nat.le_refl _) _
  have h1 := keep hb (heap_alloc_new w (.cells x.cells.toArray 56))
  have b1 := bthen b0 hb
  have hr' : w.heap.size ≤ r := Nat.le_trans b0.size hr
  obtain ⟨g, hg⟩ : ∃ g, g = w.heap.size := ⟨_, rfl⟩
  rw [← hg] at h1 ⊢
  have HB1 := Lib.hid b1
  have H1 := Lib.hid h1
  have HR := Lib.hid hh
  have HN : Hid (w.heap.size ≤ r) := Lib.hid hr'
  clear b0 b1 h1 hr' hg hr hh hb
  go_wp2_with (first | (refine wpList_load_row rfl 56 _ rfl g rfl 56 x.cells.toArray (0, 0) _ H1.out Tryz.underlying56 rfl AX.out ?_) | (go_at_call 34; (with_reducible refine (HCON.out _ HB1.out).mono ?_); rintro e w2 ⟨rfl, hb⟩; have HB2 := Lib.hid (bthen HB1.out hb); have HR2 := Lib.hid (keep hb HR.out); clear hb) | (refine wpList_build10 rfl rfl (vs := [(0, .agg (cellsOf s).toArray), (1, .int .i64 0)]) rfl (build_ref14 0 HSL.out) ?_; go_frame) | (refine wpList_row10 rfl 47 _ _ rfl r (refCells s 0) rfl rfl 47 (refCells zero32 0) HR2.out (refSize HSL.out) (by rw [refCells_len HSL.out, refCells_len zero32_len]) (refCells_one _ _) ?_; intro w9 hh9 hb9) | fail)
  refine bodyPost_ret (results_cell_row rfl _ _ r 47 (refCells s 0).toArray (0, 0) _ rfl hh9 Tryz.underlying47 rfl (by rw [List.size_toArray]; exact refSize HSL.out)) rfl ?_
  exact ⟨rfl, But.in HB2.out hb9 HN.out⟩
end Go.Proofs.YtcmdpmialehjgaaGreatDoor
namespace Go.Proofs.YtcmdpmialehjgaaGreatDoor
open Go.RowKit

theorem build_try15 (a b : Option Addr) (n c m d : Nat) (w : World) : (Instr.build 110 ([(0, (.slice a n c : Value)), (1, .slice b m d)] : List (Nat × Value)).toArray).run Tryz.prog w = .ok (.agg #[.slice a n c, .slice b m d, .int .i64 0, .int .i64 0]) w := by kernel_rfl
/-- Three arguments, boxed. -/
theorem three_boxes15 (w : World) (a b c : Array Value) (A B C : TypeId) : ∃ w1 g1 g2, w1 = ((w.alloc (.cells a A)).alloc (.cells b B)).alloc (.cells c C) ∧ g1 = w.heap.size + 1 ∧ g2 = w.heap.size + 1 + 1 ∧ Below w.heap.size w w1 ∧ w1.heap[w.heap.size]? = some (.cells a A (0, 0)) ∧ w1.heap[g1]? = some (.cells b B (0, 0)) ∧ w1.heap[g2]? = some (.cells c C (0, 0)) := by
  refine ⟨_, _, _, rfl, rfl, rfl, ?_, ?_, ?_, ?_⟩
  · exact (((Below.refl _ _).alloc (Nat.le_refl _) _).alloc (by simp) _).alloc (by simp; omega) _
  · rw [heap_alloc_old _ _ (by simp; omega), heap_alloc_old _ _ (by simp), heap_alloc_new]
  · rw [heap_alloc_old _ _ (by simp), heap_alloc_at _ _ _ (by simp)]
  · exact heap_alloc_at _ _ _ (by simp)
set_option linter.unusedSimpArgs false in
set_option maxRecDepth 100000 in
set_option maxHeartbeats 6400000 in
theorem check_at {w : World} {c : PChan} {t j : PTx} {m z : Int} {b o b2 o2 wk : Nat} {u0 u1 : PWay} {x1 : POut} (hc : ChanIn c) (ht : TxIn w t) (hj : TxIn w j) (hk : KsAt w) (hf : FrontFew false t) (hp : PartAt w t m z b o b2 o2 wk u0 u1 x1) (hO : ownerP c t ≠ -1) :
    Calls Tryz.prog 36 #[.agg c.cells.toArray, .agg t.cells.toArray, .agg j.cells.toArray] w fun e w' => e = .returned (.int .i64 (checkR m u1 (txSum t) j)) ∧ Below w.heap.size w w' := by
  obtain ⟨O, hOv⟩ : ∃ O, ownerP c t = O := ⟨_, rfl⟩
  rw [hOv] at hO
  have eO : (O == -1) = false := by simp [hO]
  have HOW : Hid (∀ W : World, Below w.heap.size w W → Calls Tryz.prog 33 #[.agg c.cells.toArray, .agg t.cells.toArray] W fun e w' => e = .returned (.int .i64 O) ∧ Below W.heap.size W w') := Lib.hid fun W hW => by rw [← hOv]; exact owner_any hc (ht.below hW)
  obtain ⟨T, hT, hTl⟩ : ∃ T, txSum t = T ∧ T.length = 32 := ⟨_, rfl, txSum_len _⟩
  have HREF : Hid (∀ W : World, Below w.heap.size w W → Calls Tryz.prog 41 #[.agg t.cells.toArray] W fun e w' => e = .returned (.agg (refCells T 0).toArray) ∧ Below W.heap.size W w') := Lib.hid fun W hW => by rw [← hT]; exact ref14_any (ht.below hW) (hk.below hW) hf
  rw [hT]
  obtain ⟨K, hK⟩ : ∃ K, txOk j = K := ⟨_, rfl⟩
  have HTR : Hid (∀ W : World, Below w.heap.size w W → Calls Tryz.prog 50 #[.agg j.cells.toArray] W fun e w' => e = .returned (.bool K) ∧ Below W.heap.size W w') := Lib.hid fun W hW => by rw [← hK]; exact txRight_any (hj.below hW)
  have HKV := Lib.hid hK
  have HP := Lib.hid hp
  have HT := Lib.hid ht
  have HJ := Lib.hid hj
  have HK := Lib.hid hk
  have HTL := Lib.hid hTl
  have SZC := Lib.hid (chan_sizeA hc.ftx)
  have SZT := Lib.hid (tx_sizeA ht.op.root)
  have SZTl := Lib.hid (tx_size ht.op.root)
  have SZJ := Lib.hid (tx_size hj.op.root)
  have j63 := hj.ins.len63
  have SZR : Hid ((Tryz.prog.info? 47).map (·.size) = some (refCells T 0).length) := Lib.hid (refSize hTl)
  clear hOv hT hK hp ht hj hk hc hf hTl hO
  go_enter Tryz.func36, Tryz.ntmps36
  go_upto_region 1 with (fail)
  obtain ⟨w1, g1, g2, hw1, hg1, hg2, hb1, h1, h2, h3⟩ := three_boxes15 w c.cells.toArray t.cells.toArray j.cells.toArray 49 56 56
  rw [← hw1, ← hg2, ← hg1]
  obtain ⟨g, hg⟩ : ∃ g, g = w.heap.size := ⟨_, rfl⟩
  rw [← hg] at h1 ⊢
  have HB1 := Lib.hid hb1
  have H1 := Lib.hid h1
  have H2 := Lib.hid h2
  have H3 := Lib.hid h3
  clear hw1 hg1 hg2 hb1 h1 h2 h3 hg
  cases K
  · have HR1 : Hid (checkR m u1 T j = 1) := Lib.hid (checkR_right HKV.out)
    go_wp2_with (first | (refine wpList_load_row rfl 49 _ rfl g rfl 49 c.cells.toArray (0, 0) _ H1.out Tryz.underlying49 rfl SZC.out ?_) | (refine wpList_load_row rfl 56 _ rfl g1 rfl 56 t.cells.toArray (0, 0) _ H2.out Tryz.underlying56 rfl SZT.out ?_) | (refine wpList_mid_wanted (by rfl) 56 _ rfl g2 0 rfl j.cells _ R32.out Tryz.underlying56 rfl SZJ.out ?_) | (go_at_call 33; (with_reducible refine (HOW.out _ HB1.out).mono ?_); rintro e w2 ⟨rfl, hb⟩; have HB2 := Lib.hid (bthen HB1.out hb); have H22 := Lib.hid (keep hb H2.out); have H32 := Lib.hid (keep hb H3.out); have R32 := Lib.hid (range_of (keep hb H3.out)); clear hb) | (go_at_call 50; (with_reducible refine (HTR.out _ HB2.out).mono ?_); rintro e w3 ⟨rfl, hb⟩; have HB3 := Lib.hid (bthen HB2.out hb); have H23 := Lib.hid (keep hb H22.out); have H33 := Lib.hid (keep hb H32.out); have ci := tx_ins (range_of (keep hb H32.out)); have ck := op_kind (tx_op (range_of (keep hb H32.out))); rw [Nat.zero_add] at ck; clear hb) | fail)
    go_ret
    exact ⟨by rw [HR1.out] <;> rfl, HB3.out⟩
  · by_cases h2 : j.inn = 1
    · have HI := Lib.hid h2
      have e2 : ((j.inn : Int) != 1) = false := by simp [h2]
      clear h2
      by_cases h4 : j.op.kind = 0
      · have HKI := Lib.hid h4
        have e4 : (j.op.kind != 0) = false := by simp [h4]
        clear h4
        obtain ⟨x, bj, oj, hins, hia, hxi, hlt, hrx⟩ := one_in15 HJ.out HI.out
        have HXI := Lib.hid hxi
        have HINS := Lib.hid hins
        have HIA := Lib.hid hia
        have HONE := Lib.hid (checkR_one (m := m) (u := u1) (T := T) HKV.out HI.out HKI.out hins)
        have HJB := Lib.hid hrx
        have HJL := Lib.hid hlt
        clear hins hia hxi hlt hrx
        go_upto_region 3 with (first | (refine wpList_load_row rfl 49 _ rfl g rfl 49 c.cells.toArray (0, 0) _ H1.out Tryz.underlying49 rfl SZC.out ?_) | (refine wpList_load_row rfl 56 _ rfl g1 rfl 56 t.cells.toArray (0, 0) _ H2.out Tryz.underlying56 rfl SZT.out ?_) | (refine wpList_mid_wanted (by rfl) 56 _ rfl g2 0 rfl j.cells _ R32.out Tryz.underlying56 rfl SZJ.out ?_) | (go_at_call 33; (with_reducible refine (HOW.out _ HB1.out).mono ?_); rintro e w2 ⟨rfl, hb⟩; have HB2 := Lib.hid (bthen HB1.out hb); have H22 := Lib.hid (keep hb H2.out); have H32 := Lib.hid (keep hb H3.out); have R32 := Lib.hid (range_of (keep hb H3.out)); clear hb) | (go_at_call 50; (with_reducible refine (HTR.out _ HB2.out).mono ?_); rintro e w3 ⟨rfl, hb⟩; have HB3 := Lib.hid (bthen HB2.out hb); have H23 := Lib.hid (keep hb H22.out); have H33 := Lib.hid (keep hb H32.out); have ci := tx_ins (range_of (keep hb H32.out)); have ck := op_kind (tx_op (range_of (keep hb H32.out))); rw [Nat.zero_add] at ck; clear hb) | fail)
        clear ci ck
        have HP3 := Lib.hid (HP.out.below HB3.out)
        have RX := Lib.hid (rangeAt_below HJB.out HJL.out HB3.out)
        have LX := Lib.hid (Nat.lt_of_lt_of_le HJL.out HB3.out.size)
        have CO : Hid (w3.cell? ⟨g1, 1, none⟩ = some (.slice (some ⟨b, o, none⟩) 2 t.oc)) := Lib.hid (by have h9 := tx_outs (range_of H23.out); rw [Nat.zero_add, HP.out.oa, HP.out.on] at h9; exact h9)
        have CI : Hid (w3.cell? ⟨g2, 0, none⟩ = some (.slice (some ⟨bj, oj, none⟩) 1 j.ic)) := Lib.hid (by have h9 := tx_ins (range_of H33.out); rw [HIA.out, HI.out] at h9; exact h9)
        have SZO : Hid ((Tryz.prog.info? 79).map (·.size) = some (POut.cells (twoO m (some ⟨b2, o2, none⟩) wk u0 u1)).length) := Lib.hid Tryz.sizeOut
        have SZX := Lib.hid (in_size HXI.out.tx)
        have ZX : Hid (noIn.cells.length = x.cells.length) := Lib.hid (by rw [PIn.len HXI.out.tx]; rfl)
        have SZXR : Hid ((Tryz.prog.info? 47).map (·.size) = some (refCells x.tx x.place).length) := Lib.hid (refSize HXI.out.tx)
        go_cut [7, 8] from 32 to 39 (fun u v w' => ∃ p q : Nat, u = .pointer (some ⟨p, 0, none⟩) ∧ v = .pointer (some ⟨q, 0, none⟩) ∧ w'.heap[p]? = some (.cells (POut.cells (twoO m (some ⟨b2, o2, none⟩) wk u0 u1)).toArray 79 (0, 0)) ∧ w'.heap[q]? = some (.cells x.cells.toArray 76 (0, 0)) ∧ Below w3.heap.size w3 w')
        case first =>
          try simp only [Act.put]
          refine wp_region_held_drew (S := fun w' => Below w3.heap.size w3 w') (by kernel_rfl) (below_drew (Below.refl _ _)) (fun hHeld => ?_)
          refine tkP 0 rfl rfl ?_
          refine tkA 1 rfl rfl (yields_cell (b := g1) (o := 1) (by rfl) rfl rfl (fun w0 hSw => (Below.cell hSw (p := ⟨g1, 1, none⟩) (lt_of_block H23.out)).trans CO.out) (fun w0 => Tryz.isAgg51 w0)) ?_
          refine tkP 2 rfl rfl ?_
          refine tkA 3 rfl rfl (yieldsIf_load_mid (by rfl) _ _ rfl b o rfl (POut.cells (twoO m (some ⟨b2, o2, none⟩) wk u0 u1)) _ (fun w0 hSw => rangeAt_below HP3.out.out HP3.out.lb hSw) Tryz.underlying79 rfl SZO.out) ?_
          refine tkP 4 rfl rfl ?_
          refine tkA 5 rfl rfl (yields_cell (b := g2) (o := 0) (by rfl) rfl rfl (fun w0 hSw => (Below.cell hSw (p := ⟨g2, 0, none⟩) (lt_of_block H33.out)).trans CI.out) (fun w0 => Tryz.isAgg50 w0)) ?_
          refine tkP 6 rfl rfl ?_
          refine tkA 7 rfl rfl (yieldsIf_load_mid (by rfl) _ _ rfl bj oj rfl x.cells _ (fun w0 hSw => rangeAt_below RX.out LX.out hSw) Tryz.underlying76 rfl SZX.out) ?_
          refine wpAnyH_ready (rs := [8, 9]) (by kernel_rfl) (by simp) ?_
          refine AllReadyH.cons rfl (fun K hK => ?_) ?_
          · refine step_alloc10 (d := 7) rfl (by rfl) 79 rfl noOut.cells.toArray Tryz.zeroOut14 ?_
            intro p y1 hp hh hb
            have Vp := Lib.hid hh
            have Np : Hid (w3.heap.size ≤ p) := Lib.hid (Nat.le_trans (Below.size hHeld) hp)
            have HX := Lib.hid (bthen hHeld hb)
            clear hp hh hb
            refine hK.out _ _ (by (try dsimp only); exact HX.out) (fun hHeld => ?_)
            clear hK K
            refine tkR 9 rfl (fun K hK => ?_)
            refine step_alloc10 (d := 8) rfl (by rfl) 76 rfl noIn.cells.toArray Tryz.zeroIn14 ?_
            intro q y2 hp hh hb
            have NE : Hid (p ≠ q) := Lib.hid (by have h9 := lt_of_block Vp.out; omega)
            have Vp := Lib.hid (keep hb Vp.out)
            have Vq := Lib.hid hh
            have Nq : Hid (w3.heap.size ≤ q) := Lib.hid (Nat.le_trans (Below.size hHeld) hp)
            have HX := Lib.hid (bthen hHeld hb)
            clear hp hh hb
            refine hK.out _ _ (by (try dsimp only); exact HX.out) (fun hHeld => ?_)
            clear hK K
            refine tkR 10 rfl (fun K hK => ?_)
            refine step_row10 (by rfl) 79 _ _ rfl p (POut.cells (twoO m (some ⟨b2, o2, none⟩) wk u0 u1)) (by rfl) (by rfl) 79 noOut.cells Vp.out SZO.out rfl (POut.one _) (fun y3 hh hb => ?_)
            have HX := Lib.hid (But.in hHeld hb Np.out)
            have Vq := Lib.hid ((hb.block q (lt_of_block Vq.out) (fun e => NE.out e.symm)).trans Vq.out)
            have Vp := Lib.hid hh
            clear hh hb
            refine hK.out _ _ (by (try dsimp only); exact HX.out) (fun hHeld => ?_)
            clear hK K
            refine tkR 11 rfl (fun K hK => ?_)
            refine step_row10 (by rfl) 76 _ _ rfl q x.cells (by rfl) (by rfl) 76 noIn.cells Vq.out SZX.out ZX.out (PIn.one _) (fun y4 hh hb => ?_)
            have HX := Lib.hid (But.in hHeld hb Nq.out)
            have Vp := Lib.hid ((hb.block p (lt_of_block Vp.out) NE.out).trans Vp.out)
            have Vq := Lib.hid hh
            clear hh hb
            refine hK.out _ _ (by (try dsimp only); exact HX.out) (fun hHeld => ?_)
            clear hK K
            refine wpAnyH_done (by kernel_rfl) ?_ _
            clear hHeld
            go_wp2_with fail
            go_meet
            exact ⟨p, q, rfl, rfl, Vp.out, Vq.out, HX.out⟩
          refine AllReadyH.cons rfl (fun K hK => ?_) ?_
          · refine step_alloc10 (d := 8) rfl (by rfl) 76 rfl noIn.cells.toArray Tryz.zeroIn14 ?_
            intro q y1 hp hh hb
            have Vq := Lib.hid hh
            have Nq : Hid (w3.heap.size ≤ q) := Lib.hid (Nat.le_trans (Below.size hHeld) hp)
            have HX := Lib.hid (bthen hHeld hb)
            clear hp hh hb
            refine hK.out _ _ (by (try dsimp only); exact HX.out) (fun hHeld => ?_)
            clear hK K
            refine tkR 8 rfl (fun K hK => ?_)
            refine step_alloc10 (d := 7) rfl (by rfl) 79 rfl noOut.cells.toArray Tryz.zeroOut14 ?_
            intro p y2 hp hh hb
            have NE : Hid (p ≠ q) := Lib.hid (by have h9 := lt_of_block Vq.out; omega)
            have Vq := Lib.hid (keep hb Vq.out)
            have Vp := Lib.hid hh
            have Np : Hid (w3.heap.size ≤ p) := Lib.hid (Nat.le_trans (Below.size hHeld) hp)
            have HX := Lib.hid (bthen hHeld hb)
            clear hp hh hb
            refine hK.out _ _ (by (try dsimp only); exact HX.out) (fun hHeld => ?_)
            clear hK K
            refine tkR 10 rfl (fun K hK => ?_)
            refine step_row10 (by rfl) 79 _ _ rfl p (POut.cells (twoO m (some ⟨b2, o2, none⟩) wk u0 u1)) (by rfl) (by rfl) 79 noOut.cells Vp.out SZO.out rfl (POut.one _) (fun y3 hh hb => ?_)
            have HX := Lib.hid (But.in hHeld hb Np.out)
            have Vq := Lib.hid ((hb.block q (lt_of_block Vq.out) (fun e => NE.out e.symm)).trans Vq.out)
            have Vp := Lib.hid hh
            clear hh hb
            refine hK.out _ _ (by (try dsimp only); exact HX.out) (fun hHeld => ?_)
            clear hK K
            refine tkR 11 rfl (fun K hK => ?_)
            refine step_row10 (by rfl) 76 _ _ rfl q x.cells (by rfl) (by rfl) 76 noIn.cells Vq.out SZX.out ZX.out (PIn.one _) (fun y4 hh hb => ?_)
            have HX := Lib.hid (But.in hHeld hb Nq.out)
            have Vp := Lib.hid ((hb.block p (lt_of_block Vp.out) NE.out).trans Vp.out)
            have Vq := Lib.hid hh
            clear hh hb
            refine hK.out _ _ (by (try dsimp only); exact HX.out) (fun hHeld => ?_)
            clear hK K
            refine wpAnyH_done (by kernel_rfl) ?_ _
            clear hHeld
            go_wp2_with fail
            go_meet
            exact ⟨p, q, rfl, rfl, Vp.out, Vq.out, HX.out⟩
          exact AllReadyH.nil
        case rest =>
          obtain ⟨p, q, rfl, rfl, hp4, hq4, hb4⟩ := hcut
          have HB4 := Lib.hid (bthen HB3.out hb4)
          have H24 := Lib.hid (keep hb4 H23.out)
          have H34 := Lib.hid (keep hb4 H33.out)
          have HP4 := Lib.hid hp4
          have HQ4 := Lib.hid hq4
          have CW : Hid (wc.cell? ⟨q, 33, none⟩ = some (.int .i64 x.way)) := Lib.hid (by have h9 := in_way HXI.out.tx (range_of hq4); rw [Nat.zero_add] at h9; exact h9)
          obtain ⟨RV, hRV⟩ : ∃ RV, (decide (x.tx = T) && decide (x.place = 0)) = RV := ⟨_, rfl⟩
          have qr : ∀ W : World, (Op.equalIn 10000 47 (.agg (refCells x.tx x.place).toArray) (.agg (refCells T 0).toArray)).run Tryz.prog W = .ok RV W := fun W => by rw [run_eqRefs _ _ _ _ HXI.out.tx HTL.out W, hRV]
          have HRV := Lib.hid hRV
          clear hRV hp4 hq4 hb4 H23 H33
          go_upto_region 4 with (fail)
          cases RV
          · refine wp_region_held_drew (S := fun w' => Below wc.heap.size wc w') (by kernel_rfl) (below_drew (Below.refl _ _)) (fun hHeld => ?_)
            refine tkP 0 rfl rfl ?_
            refine tkA 1 rfl rfl (yieldsIf_load_mid (by rfl) _ _ rfl q 0 rfl (refCells x.tx x.place) _ (fun w0 hSw => in_ref (range_of (keep hSw HQ4.out))) Tryz.underlying47 rfl SZXR.out) ?_
            refine tkA 2 rfl rfl (yieldsIf_load_mid (by rfl) _ _ rfl g1 0 rfl t.cells _ (fun w0 hSw => range_of (keep hSw H24.out)) Tryz.underlying56 rfl SZTl.out) ?_
            refine tkR 3 rfl (fun K hK => ?_)
            have HCx := Lib.hid (HREF.out _ (bthen HB4.out hHeld))
            go_simp
            go_wp2_with ((go_at_call 41; (with_reducible refine (HCx.out).mono ?_); rintro e y1 ⟨rfl, hb⟩; have HX := Lib.hid (bthen hHeld hb); clear hb HCx))
            refine hK.out _ _ (by (try dsimp only); exact HX.out) (fun hHeld => ?_)
            clear hK K
            refine tkP (v := .bool true) 4 rfl rfl ?_
            refine tkP 5 rfl rfl ?_
            refine tkA (v := undef) 6 rfl rfl (Or.inr ⟨by rfl, rfl⟩) ?_
            refine tkA (v := undef) 7 rfl rfl (Or.inr ⟨by rfl, rfl⟩) ?_
            refine tkA (v := undef) 8 rfl rfl (Or.inr ⟨by rfl, rfl⟩) ?_
            refine tkP 9 rfl rfl ?_
            refine wpAnyH_done (by kernel_rfl) ?_ _
            clear hHeld
            have HB5 := Lib.hid (bthen HB4.out HX.out)
            go_wp2_with fail
            go_ret
            exact ⟨by rw [HONE.out, HRV.out]; rfl, HB5.out⟩
          · by_cases hw : x.way = 1
            · have ew : (x.way != 1) = false := by simp [hw]
              have HWV : Hid (decide (x.way = 1) = true) := Lib.hid (decide_eq_true hw)
              clear hw
              refine wp_region_held_drew (S := fun w' => Below wc.heap.size wc w') (by kernel_rfl) (below_drew (Below.refl _ _)) (fun hHeld => ?_)
              refine tkP 0 rfl rfl ?_
              refine tkA 1 rfl rfl (yieldsIf_load_mid (by rfl) _ _ rfl q 0 rfl (refCells x.tx x.place) _ (fun w0 hSw => in_ref (range_of (keep hSw HQ4.out))) Tryz.underlying47 rfl SZXR.out) ?_
              refine tkA 2 rfl rfl (yieldsIf_load_mid (by rfl) _ _ rfl g1 0 rfl t.cells _ (fun w0 hSw => range_of (keep hSw H24.out)) Tryz.underlying56 rfl SZTl.out) ?_
              refine tkR 3 rfl (fun K hK => ?_)
              have HCx := Lib.hid (HREF.out _ (bthen HB4.out hHeld))
              go_simp
              go_wp2_with ((go_at_call 41; (with_reducible refine (HCx.out).mono ?_); rintro e y1 ⟨rfl, hb⟩; have HX := Lib.hid (bthen hHeld hb); clear hb HCx))
              refine hK.out _ _ (by (try dsimp only); exact HX.out) (fun hHeld => ?_)
              clear hK K
              refine tkP (v := .bool false) 4 rfl rfl ?_
              refine tkP 5 rfl rfl ?_
              refine tkP 6 rfl rfl ?_
              refine tkA 7 rfl rfl (yields_cell (b := q) (o := 33) (by rfl) rfl rfl (fun w0 hSw => (Below.cell hSw (p := ⟨q, 33, none⟩) (lt_of_block HQ4.out)).trans CW.out) (fun w0 => Tryz.isAgg3 w0)) ?_
              refine tkP (v := .bool false) 8 rfl rfl ?_
              refine tkP 9 rfl rfl ?_
              refine wpAnyH_done (by kernel_rfl) ?_ _
              clear hHeld
              go_upto_region 6 with (fail)
              have HB5 := Lib.hid (bthen HB4.out HX.out)
              have H35 := Lib.hid (keep HX.out H34.out)
              have HP5 := Lib.hid (keep HX.out HP4.out)
              have HQ5 := Lib.hid (keep HX.out HQ4.out)
              revert HB5 H35 HP5 HQ5
              generalize y1 = w5
              intro HB5 H35 HP5 HQ5
              have CPW : Hid (w5.cell? ⟨p, 1, none⟩ = some (.slice (some ⟨b2, o2, none⟩) 2 wk)) := Lib.hid ((range_cons (range_cons (range_of HP5.out)).2).1)
              have CM5 : Hid (w5.cell? ⟨p, 0, none⟩ = some (.int .i64 m)) := Lib.hid ((range_cons (range_of HP5.out)).1)
              have CPR : Hid (w5.cell? ⟨q, 34, none⟩ = some (.slice x.a x.n x.c)) := Lib.hid (by have h9 := in_pre HXI.out.tx (range_of HQ5.out); rw [Nat.zero_add] at h9; exact h9)
              have HPT := Lib.hid (HP.out.below HB5.out)
              have SZU := Lib.hid (way_size HP.out.way.sum)
              obtain ⟨KS, hKS⟩ : ∃ KS, keysBy (txSum j) j.signs = KS := ⟨_, rfl⟩
              have HKY : Hid (∀ W : World, Below w5.heap.size w5 W → Calls Tryz.prog 52 #[.agg j.cells.toArray] W fun e w' => ∃ (a : Option Addr) (n c : Nat), e = .returned (.slice a n c) ∧ Numbers w' a n c KS ∧ Below W.heap.size W w') := Lib.hid (fun W hW => by rw [← hKS]; exact txKeys_any (HJ.out.below (bthen HB5.out hW)) (HK.out.below (bthen HB5.out hW)) (frontOk false HJ.out HKV.out) (by have h9 := (txOk_parts HKV.out).2.2.1; omega))
              have hks16 : KS.length ≤ 16 := by have h9 := keysBy_len (s := txSum j) j.signs; have h8 := HJ.out.signs.1; have h7 := (txOk_parts HKV.out).2.2.1; rw [hKS] at h9; omega
              have hpre : x.n ≤ 1000000 := by have h9 := insOk_each (txOk_parts HKV.out).2.2.2.2.2.1 x (by rw [HINS.out]; simp); have h8 : (uptoB x.place 15 && (uptoB x.way 15 && decide (x.n ≤ 64))) = true := h9; simp only [Bool.and_eq_true, decide_eq_true_eq] at h8; omega
              obtain ⟨OV, hOV⟩ : ∃ OV, opensW u1 KS x.pre 0 0 = OV := ⟨_, rfl⟩
              have HOPN : Hid (∀ (W : World) (a : Option Addr) (n c : Nat), Below w5.heap.size w5 W → Numbers W a n c KS → Calls Tryz.prog 51 #[.agg u1.cells.toArray, .agg #[.slice a n c, .slice x.a x.n x.c, .int .i64 0, .int .i64 0]] W fun e w' => e = .returned (.bool OV) ∧ Below W.heap.size W w') := Lib.hid (fun W a n c hW hn => by rw [← hOV]; exact opens_any (HP.out.way.below (bthen HB5.out hW)) hn (HXI.out.pre.below (bthen HB5.out hW)) (HK.out.below (bthen HB5.out hW)) (by have h9 := hn.1; omega) hpre)
              have HPASS : Hid (checkR m u1 T j = passR m u1 KS x.pre j.outs) := Lib.hid (by rw [HONE.out, HRV.out, HWV.out, hKS]; rfl)
              have HOV := Lib.hid hOV
              clear hKS hks16 hpre hOV HONE HRV HWV
              cases OV
              · refine wp_region_held_drew (S := fun w' => Below w5.heap.size w5 w') (by kernel_rfl) (below_drew (Below.refl _ _)) (fun hHeld => ?_)
                refine tkP 0 rfl rfl ?_
                refine tkA 1 rfl rfl (yields_cell (b := p) (o := 1) (by rfl) rfl rfl (fun w0 hSw => (Below.cell hSw (p := ⟨p, 1, none⟩) (lt_of_block HP5.out)).trans CPW.out) (fun w0 => Tryz.isAgg77 w0)) ?_
                refine tkP 2 rfl rfl ?_
                refine tkA 3 rfl rfl (yieldsIf_load_mid (by rfl) _ _ rfl b2 (o2 + 35) rfl u1.cells _ (fun w0 hSw => rangeAt_below HPT.out.at2 HPT.out.lb2 hSw) Tryz.underlying82 rfl SZU.out) ?_
                refine tkA 4 rfl rfl (yieldsIf_load_mid (by rfl) _ _ rfl g2 0 rfl j.cells _ (fun w0 hSw => range_of (keep hSw H35.out)) Tryz.underlying56 rfl SZJ.out) ?_
                refine tkP 6 rfl rfl ?_
                refine tkA 7 rfl rfl (yields_cell (b := q) (o := 34) (by rfl) rfl rfl (fun w0 hSw => (Below.cell hSw (p := ⟨q, 34, none⟩) (lt_of_block HQ5.out)).trans CPR.out) (fun w0 => Tryz.isAgg26 w0)) ?_
                refine tkR 5 rfl (fun K hK => ?_)
                have HCx := Lib.hid (HKY.out _ hHeld)
                go_simp
                go_wp2_with ((go_at_call 52; (with_reducible refine (HCx.out).mono ?_); rintro e y1 ⟨ka, kn, kc, rfl, hn, hb⟩; have HN := Lib.hid hn; have HX := Lib.hid (bthen hHeld hb); clear hn hb HCx))
                refine hK.out _ _ (by (try dsimp only); exact HX.out) (fun hHeld => ?_)
                clear hK K
                refine tkA 8 rfl rfl (yields_build10 (by rfl) rfl (vs := [(0, .slice ka kn kc), (1, .slice x.a x.n x.c)]) (by rfl) (build_try15 _ _ _ _ _ _)) ?_
                refine tkR 9 rfl (fun K hK => ?_)
                have HCx := Lib.hid (HOPN.out _ ka kn kc hHeld HN.out)
                go_simp
                go_wp2_with ((go_at_call 51; (with_reducible refine (HCx.out).mono ?_); rintro e y2 ⟨rfl, hb⟩; have HX := Lib.hid (bthen hHeld hb); clear hb HCx))
                refine hK.out _ _ (by (try dsimp only); exact HX.out) (fun hHeld => ?_)
                clear hK K
                refine tkP (v := .bool true) 10 rfl rfl ?_
                refine wpAnyH_done (by kernel_rfl) ?_ _
                clear hHeld
                have HB6 := Lib.hid (bthen HB5.out HX.out)
                go_wp2_with fail
                go_ret
                exact ⟨by rw [HPASS.out]; unfold passR; rw [HOV.out]; rfl, HB6.out⟩
              · refine wp_region_held_drew (S := fun w' => Below w5.heap.size w5 w') (by kernel_rfl) (below_drew (Below.refl _ _)) (fun hHeld => ?_)
                refine tkP 0 rfl rfl ?_
                refine tkA 1 rfl rfl (yields_cell (b := p) (o := 1) (by rfl) rfl rfl (fun w0 hSw => (Below.cell hSw (p := ⟨p, 1, none⟩) (lt_of_block HP5.out)).trans CPW.out) (fun w0 => Tryz.isAgg77 w0)) ?_
                refine tkP 2 rfl rfl ?_
                refine tkA 3 rfl rfl (yieldsIf_load_mid (by rfl) _ _ rfl b2 (o2 + 35) rfl u1.cells _ (fun w0 hSw => rangeAt_below HPT.out.at2 HPT.out.lb2 hSw) Tryz.underlying82 rfl SZU.out) ?_
                refine tkA 4 rfl rfl (yieldsIf_load_mid (by rfl) _ _ rfl g2 0 rfl j.cells _ (fun w0 hSw => range_of (keep hSw H35.out)) Tryz.underlying56 rfl SZJ.out) ?_
                refine tkP 6 rfl rfl ?_
                refine tkA 7 rfl rfl (yields_cell (b := q) (o := 34) (by rfl) rfl rfl (fun w0 hSw => (Below.cell hSw (p := ⟨q, 34, none⟩) (lt_of_block HQ5.out)).trans CPR.out) (fun w0 => Tryz.isAgg26 w0)) ?_
                refine tkR 5 rfl (fun K hK => ?_)
                have HCx := Lib.hid (HKY.out _ hHeld)
                go_simp
                go_wp2_with ((go_at_call 52; (with_reducible refine (HCx.out).mono ?_); rintro e y1 ⟨ka, kn, kc, rfl, hn, hb⟩; have HN := Lib.hid hn; have HX := Lib.hid (bthen hHeld hb); clear hn hb HCx))
                refine hK.out _ _ (by (try dsimp only); exact HX.out) (fun hHeld => ?_)
                clear hK K
                refine tkA 8 rfl rfl (yields_build10 (by rfl) rfl (vs := [(0, .slice ka kn kc), (1, .slice x.a x.n x.c)]) (by rfl) (build_try15 _ _ _ _ _ _)) ?_
                refine tkR 9 rfl (fun K hK => ?_)
                have HCx := Lib.hid (HOPN.out _ ka kn kc hHeld HN.out)
                go_simp
                go_wp2_with ((go_at_call 51; (with_reducible refine (HCx.out).mono ?_); rintro e y2 ⟨rfl, hb⟩; have HX := Lib.hid (bthen hHeld hb); clear hb HCx))
                refine hK.out _ _ (by (try dsimp only); exact HX.out) (fun hHeld => ?_)
                clear hK K
                refine tkP (v := .bool false) 10 rfl rfl ?_
                refine wpAnyH_done (by kernel_rfl) ?_ _
                clear hHeld
                have HB6 := Lib.hid (bthen HB5.out HX.out)
                have H36 := Lib.hid (keep HX.out H35.out)
                have HP6 := Lib.hid (keep HX.out HP5.out)
                revert HB6 H36 HP6
                generalize y2 = w6
                intro HB6 H36 HP6
                have CM : Hid (w6.cell? ⟨p, 0, none⟩ = some (.int .i64 m)) := Lib.hid ((range_cons (range_of HP6.out)).1)
                have co := tx_outs (range_of H36.out)
                rw [Nat.zero_add] at co
                obtain ⟨A1, A2, hA⟩ : ∃ A1 A2, addFrom 0 (sumsOf j.outs) = (A1, A2) := ⟨_, _, rfl⟩
                have HTOG : Hid (∀ W : World, Below w.heap.size w W → Calls Tryz.prog 53 #[.slice j.oa j.on j.oc] W fun e w' => e = .returned (.tuple #[.int .i64 A1, .int .i64 A2]) ∧ Below W.heap.size W w') := Lib.hid (fun W hW => by
                  have h9 := together_any (HJ.out.outs.below hW) (by have h9 := (txOk_parts HKV.out).2.1; omega)
                  rw [hA] at h9
                  exact h9)
                have HRES : Hid (checkR m u1 T j = if A2 = 0 then (if m < A1 then 14 else 0) else A2) := Lib.hid (by rw [HPASS.out]; unfold passR; rw [HOV.out, hA]; rfl)
                clear hA HPASS HOV
                by_cases hA2 : A2 = 0
                · have e2 : (A2 != 0) = false := by simp [hA2]
                  by_cases hm : m < A1
                  · have e3 : decide (m < A1) = true := decide_eq_true hm
                    have HRES2 : Hid (checkR m u1 T j = 14) := Lib.hid (by rw [HRES.out, if_pos hA2, if_pos hm])
                    clear HRES hA2 hm
                    go_wp2_with (first | (go_at_call 53; (with_reducible refine (HTOG.out _ HB6.out).mono ?_); rintro e w7 ⟨rfl, hb⟩; have HB7 := Lib.hid (bthen HB6.out hb); have cm := (Below.cell hb (p := ⟨p, 0, none⟩) (lt_of_block HP6.out)).trans CM.out; clear hb) | fail)
                    go_ret
                    exact ⟨by rw [HRES2.out] <;> rfl, HB7.out⟩
                  · have e3 : decide (m < A1) = false := decide_eq_false hm
                    have HRES2 : Hid (checkR m u1 T j = 0) := Lib.hid (by rw [HRES.out, if_pos hA2, if_neg hm])
                    clear HRES hA2 hm
                    go_wp2_with (first | (go_at_call 53; (with_reducible refine (HTOG.out _ HB6.out).mono ?_); rintro e w7 ⟨rfl, hb⟩; have HB7 := Lib.hid (bthen HB6.out hb); have cm := (Below.cell hb (p := ⟨p, 0, none⟩) (lt_of_block HP6.out)).trans CM.out; clear hb) | fail)
                    go_ret
                    exact ⟨by rw [HRES2.out] <;> rfl, HB7.out⟩
                · have e2 : (A2 != 0) = true := by simp [hA2]
                  have HRES2 : Hid (checkR m u1 T j = A2) := Lib.hid (by rw [HRES.out, if_neg hA2])
                  clear HRES hA2
                  go_wp2_with (first | (go_at_call 53; (with_reducible refine (HTOG.out _ HB6.out).mono ?_); rintro e w7 ⟨rfl, hb⟩; have HB7 := Lib.hid (bthen HB6.out hb); have cm := (Below.cell hb (p := ⟨p, 0, none⟩) (lt_of_block HP6.out)).trans CM.out; clear hb) | fail)
                  go_ret
                  exact ⟨by rw [HRES2.out] <;> rfl, HB7.out⟩
            · have ew : (x.way != 1) = true := by simp [hw]
              have HWV : Hid (decide (x.way = 1) = false) := Lib.hid (decide_eq_false hw)
              clear hw
              refine wp_region_held_drew (S := fun w' => Below wc.heap.size wc w') (by kernel_rfl) (below_drew (Below.refl _ _)) (fun hHeld => ?_)
              refine tkP 0 rfl rfl ?_
              refine tkA 1 rfl rfl (yieldsIf_load_mid (by rfl) _ _ rfl q 0 rfl (refCells x.tx x.place) _ (fun w0 hSw => in_ref (range_of (keep hSw HQ4.out))) Tryz.underlying47 rfl SZXR.out) ?_
              refine tkA 2 rfl rfl (yieldsIf_load_mid (by rfl) _ _ rfl g1 0 rfl t.cells _ (fun w0 hSw => range_of (keep hSw H24.out)) Tryz.underlying56 rfl SZTl.out) ?_
              refine tkR 3 rfl (fun K hK => ?_)
              have HCx := Lib.hid (HREF.out _ (bthen HB4.out hHeld))
              go_simp
              go_wp2_with ((go_at_call 41; (with_reducible refine (HCx.out).mono ?_); rintro e y1 ⟨rfl, hb⟩; have HX := Lib.hid (bthen hHeld hb); clear hb HCx))
              refine hK.out _ _ (by (try dsimp only); exact HX.out) (fun hHeld => ?_)
              clear hK K
              refine tkP (v := .bool false) 4 rfl rfl ?_
              refine tkP 5 rfl rfl ?_
              refine tkP 6 rfl rfl ?_
              refine tkA 7 rfl rfl (yields_cell (b := q) (o := 33) (by rfl) rfl rfl (fun w0 hSw => (Below.cell hSw (p := ⟨q, 33, none⟩) (lt_of_block HQ4.out)).trans CW.out) (fun w0 => Tryz.isAgg3 w0)) ?_
              refine tkP (v := .bool true) 8 rfl rfl ?_
              refine tkP 9 rfl rfl ?_
              refine wpAnyH_done (by kernel_rfl) ?_ _
              clear hHeld
              have HB5 := Lib.hid (bthen HB4.out HX.out)
              go_wp2_with fail
              go_ret
              exact ⟨by rw [HONE.out, HRV.out, HWV.out]; rfl, HB5.out⟩
      · have e4 : (j.op.kind != 0) = true := by simp [h4]
        have HR1 : Hid (checkR m u1 T j = 1) := Lib.hid (checkR_kind h4)
        clear h4
        go_wp2_with (first | (refine wpList_load_row rfl 49 _ rfl g rfl 49 c.cells.toArray (0, 0) _ H1.out Tryz.underlying49 rfl SZC.out ?_) | (refine wpList_load_row rfl 56 _ rfl g1 rfl 56 t.cells.toArray (0, 0) _ H2.out Tryz.underlying56 rfl SZT.out ?_) | (refine wpList_mid_wanted (by rfl) 56 _ rfl g2 0 rfl j.cells _ R32.out Tryz.underlying56 rfl SZJ.out ?_) | (go_at_call 33; (with_reducible refine (HOW.out _ HB1.out).mono ?_); rintro e w2 ⟨rfl, hb⟩; have HB2 := Lib.hid (bthen HB1.out hb); have H22 := Lib.hid (keep hb H2.out); have H32 := Lib.hid (keep hb H3.out); have R32 := Lib.hid (range_of (keep hb H3.out)); clear hb) | (go_at_call 50; (with_reducible refine (HTR.out _ HB2.out).mono ?_); rintro e w3 ⟨rfl, hb⟩; have HB3 := Lib.hid (bthen HB2.out hb); have H23 := Lib.hid (keep hb H22.out); have H33 := Lib.hid (keep hb H32.out); have ci := tx_ins (range_of (keep hb H32.out)); have ck := op_kind (tx_op (range_of (keep hb H32.out))); rw [Nat.zero_add] at ck; clear hb) | fail)
        go_ret
        exact ⟨by rw [HR1.out] <;> rfl, HB3.out⟩
    · have e2 : ((j.inn : Int) != 1) = true := by simp; omega
      have HR1 : Hid (checkR m u1 T j = 1) := Lib.hid (checkR_len h2)
      clear h2
      go_wp2_with (first | (refine wpList_load_row rfl 49 _ rfl g rfl 49 c.cells.toArray (0, 0) _ H1.out Tryz.underlying49 rfl SZC.out ?_) | (refine wpList_load_row rfl 56 _ rfl g1 rfl 56 t.cells.toArray (0, 0) _ H2.out Tryz.underlying56 rfl SZT.out ?_) | (refine wpList_mid_wanted (by rfl) 56 _ rfl g2 0 rfl j.cells _ R32.out Tryz.underlying56 rfl SZJ.out ?_) | (go_at_call 33; (with_reducible refine (HOW.out _ HB1.out).mono ?_); rintro e w2 ⟨rfl, hb⟩; have HB2 := Lib.hid (bthen HB1.out hb); have H22 := Lib.hid (keep hb H2.out); have H32 := Lib.hid (keep hb H3.out); have R32 := Lib.hid (range_of (keep hb H3.out)); clear hb) | (go_at_call 50; (with_reducible refine (HTR.out _ HB2.out).mono ?_); rintro e w3 ⟨rfl, hb⟩; have HB3 := Lib.hid (bthen HB2.out hb); have H23 := Lib.hid (keep hb H22.out); have H33 := Lib.hid (keep hb H32.out); have ci := tx_ins (range_of (keep hb H32.out)); have ck := op_kind (tx_op (range_of (keep hb H32.out))); rw [Nat.zero_add] at ck; clear hb) | fail)
      go_ret
      exact ⟨by rw [HR1.out] <;> rfl, HB3.out⟩
end Go.Proofs.YtcmdpmialehjgaaGreatDoor
namespace Go.Proofs.YtcmdpmialehjgaaGreatDoor
open Go.RowKit

theorem txB_inj17 {x t : PTx} (hx : Lens x) (ht : Lens t) (h1 : txOk x = true) (h2 : txOk t = true) (h : txB x = txB t) : x.strip = t.strip := by
  have e1 := txR_put hx h1
  have e2 := txR_put ht h2
  rw [h, e2] at e1
  exact (Prod.mk.inj e1).1.symm
theorem frontB_strip17 (sh : Bool) (x : PTx) : frontB sh x.strip = frontB sh x := by
  show numB ((x.ins.map PIn.strip).length : Nat) ++ (insB sh (x.ins.map PIn.strip) ++ (numB ((x.outs.map POut.strip).length : Nat) ++ (outsB (x.outs.map POut.strip) ++ opB x.op.strip))) = _
  rw [insB_strip, outsB_strip, List.length_map, List.length_map]
  rfl
theorem txSum_alike17 {x t : PTx} (h : x.strip = t.strip) : txSum x = txSum t := by
  unfold txSum
  rw [← frontB_strip17 false x, ← frontB_strip17 false t, h]
theorem sumsOf_strip17 (xs : List POut) : sumsOf (xs.map POut.strip) = sumsOf xs := by
  unfold sumsOf
  rw [List.map_map]
  rfl
theorem passR_outs17 {m : Int} {u : PWay} {ks : List Int} {pre : List UInt8} {a b : List POut} (h : a.map POut.strip = b.map POut.strip) : passR m u ks pre a = passR m u ks pre b := by
  unfold passR
  rw [← sumsOf_strip17 a, ← sumsOf_strip17 b, h]
theorem checkR_alike {m : Int} {u : PWay} {T : List UInt8} {x y : PTx} (hx : Lens x) (hy : Lens y) (h : x.strip = y.strip) : checkR m u T x = checkR m u T y := by
  have e1 : txOk x = txOk y := by rw [← txOk_strip hx, ← txOk_strip hy, h]
  have hi : x.ins.map PIn.strip = y.ins.map PIn.strip := congrArg PTx.ins h
  have ho : x.outs.map POut.strip = y.outs.map POut.strip := congrArg PTx.outs h
  have hp : x.op.kind = y.op.kind := congrArg (fun z => z.op.kind) h
  have hs : x.signs = y.signs := show x.strip.signs = y.strip.signs from congrArg PTx.signs h
  have hl : x.inn = y.inn := by
    rw [← hx.ins, ← hy.ins]
    have h9 := congrArg List.length hi
    simpa using h9
  unfold checkR
  rw [e1, hl, hp, hs, txSum_alike17 h]
  cases txOk y && (decide (y.inn = 1) && decide (y.op.kind = 0))
  · rfl
  · simp only [if_true]
    generalize x.ins = a at hi
    generalize y.ins = b at hi
    match a, b, hi with
    | [], [], _ => rfl
    | [p], [q], hi =>
      have hq : p.strip = q.strip := by simpa using hi
      have t1 : p.tx = q.tx := show p.strip.tx = q.strip.tx from congrArg PIn.tx hq
      have t2 : p.place = q.place := show p.strip.place = q.strip.place from congrArg PIn.place hq
      have t3 : p.way = q.way := show p.strip.way = q.strip.way from congrArg PIn.way hq
      have t4 : p.pre = q.pre := show p.strip.pre = q.strip.pre from congrArg PIn.pre hq
      simp only [t1, t2, t3, t4, passR_outs17 ho]
    | _ :: _ :: _, _ :: _ :: _, _ => rfl
    | [], _ :: _, hi => simp at hi
    | _ :: _, [], hi => simp at hi
    | [_], _ :: _ :: _, hi => simp at hi
    | _ :: _ :: _, [_], hi => simp at hi
end Go.Proofs.YtcmdpmialehjgaaGreatDoor
