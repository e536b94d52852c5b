/- bond.Towers: their numbers, rising. -/
import Derived.Test.YtijanllppbambaaBondSums
import Derived.Test.YtijanllppbambaaOwnZ
import Derived.Test.YtijanllppbambaaShelf
namespace Go.Proofs.Ytijanllppbambaa
open Go.RowKit Go.Maps Go.Sort Go.Shelf

theorem Try.sortsIn (m : Nat) : AnyZI.SortsIn Try.prog Try.laysSorted_ren Fence.wide m :=
  ⟨fun blk off cap ss W hH hblk hsz => callsIn_wide.2 (Try.slices_Sort_int blk off cap ss W hH hblk hsz), fun p cap W => callsIn_wide.2 (Try.slices_Sort_int_none p cap W)⟩
theorem keys_any (mb : Option Nat) (W : World) : Calls Try.prog 35 #[.map mb] W fun e w' => e = .returned (.func (.func 44) #[] #[.pointer (some ⟨W.heap.size, 0, none⟩)]) ∧ w' = W.alloc (.cells #[.map mb] 48) :=
  (callsIn_wide (n := 5)).1 (AnyZI.keys_in Try.laysKeys Fence.wide 5 trivial rfl mb W)
set_option maxHeartbeats 1000000 in
theorem sorted_any {w : World} {b nn : Nat} {D0 : DataW Value} (hown : w.ownsMap Try.prog 3 heldR b nn D0) (hmax : Maps.size D0 ≤ 1000) :
    Calls Try.prog 34 #[.func (.func 44) #[] #[.pointer (some ⟨w.heap.size, 0, none⟩)]] (w.alloc (.cells #[.map (some b)] 48)) fun e w' => ∃ (v : Value) (ss : List Int), e = .returned v ∧ ss.Perm (intKeys D0) ∧
      w'.ownsRow (w.alloc (.cells #[.map (some b)] 48)).heap.size 3 1 v ss.length ((ss.mergeSort (fun x y => decide (x ≤ y))).map encZ) ∧ (v = .slice none 0 0 ↔ ss = []) ∧ Below (w.alloc (.cells #[.map (some b)] 48)).heap.size (w.alloc (.cells #[.map (some b)] 48)) w' := by
  have hseq : SeqGives Fence.wide 2 Try.prog 44 #[.pointer (some ⟨w.heap.size, 0, none⟩)] encZ (fun ss => ss.Perm (intKeys D0)) (Maps.size D0) (w.alloc (.cells #[.map (some b)] 48)) :=
    AnyZI.keys_gives (ρ := Try.laysKeys_ren) { Try.laysKeys with } Fence.wide _ trivial rfl (by omega) w.heap.size b nn D0 _ (by simp) (by simp) (by
      obtain ⟨es, clock, hb, Ft, hs, hD⟩ := hown
      have hbl : b < w.heap.size := (Array.getElem?_eq_some_iff.1 hb).1
      exact ⟨es, clock, (Below.heap_alloc _ _ b hbl).trans hb, Ft, hs, hD⟩)
  exact (callsIn_wide (n := 5)).1 (AnyZI.sorted_in Try.laysSorted Fence.wide 5 trivial trivial trivial trivial rfl (by omega) (Try.sortsIn _) (enters_of Try.func43 (by kernel_rfl) rfl) 44 #[.pointer (some ⟨w.heap.size, 0, none⟩)] trivial (enters_of Try.func44 (by kernel_rfl) rfl) _ _ (by unfold maxLen; omega) (by omega) _ hseq)
theorem intKeys_nodup {w : World} {b nn : Nat} {D0 : DataW Value} (hown : w.ownsMap Try.prog 3 heldR b nn D0) : (intKeys D0).Nodup := by
  obtain ⟨es, hD, hpw, _⟩ := hown.entries Try.keyNum
  obtain ⟨es', hD', hko⟩ := hown.keysOf
  obtain rfl : es = es' := by rw [hD] at hD'; simpa using hD'
  subst hD
  show (es.map fun p => Go.intOf p.1).Nodup
  refine List.pairwise_map.2 (hpw.imp_of_mem fun {p q} hp' hq' hne e => hne ?_)
  obtain ⟨v, hv⟩ := hko p hp'
  obtain ⟨u, hu⟩ := hko q hq'
  obtain ⟨x, _, hx, _⟩ := Maps.keyOf_i64 Try.underlying3 hv
  obtain ⟨y, _, hy, _⟩ := Maps.keyOf_i64 Try.underlying3 hu
  rw [hx, hy] at e ⊢
  exact congrArg _ e
theorem intKeys_len {w : World} {b nn : Nat} {D0 : DataW Value} (hown : w.ownsMap Try.prog 3 heldR b nn D0) : (intKeys D0).length = Maps.size D0 := by
  obtain ⟨es, rfl, _⟩ := hown.keysOf
  simp [intKeys, Maps.size]
theorem cellsZ_enc (zs : List Int) : zs.map encZ = cellsZ zs := rfl
theorem sortZ_perm (zs : List Int) : (zs.mergeSort (fun x y => decide (x ≤ y))).Perm zs := List.mergeSort_perm zs _
theorem sortZ_up {zs : List Int} (h : zs.Nodup) : (zs.mergeSort (fun x y => decide (x ≤ y))).Pairwise (· < ·) := by
  have h1 := List.pairwise_mergeSort (le := fun (x y : Int) => decide (x ≤ y)) (fun a b c h1 h2 => by simp at *; omega) (fun a b => by simp; omega) zs
  have h2 : (zs.mergeSort (fun x y => decide (x ≤ y))).Nodup := (sortZ_perm zs).nodup_iff.2 h
  refine (List.Pairwise.and h1 h2).imp fun {a b} hab => ?_
  have h3 : a ≤ b := by simpa using hab.1
  have h4 := hab.2
  omega
set_option linter.unusedSimpArgs false in
set_option maxRecDepth 100000 in
set_option maxHeartbeats 12800000 in
theorem towers_any {B : Nat} {w : World} {pv : Value} {tb hb N : Nat} {ts : List PTE} {hs : List PHE} (h : BoardAt B w pv tb hb N ts hs) :
    Calls Try.prog 22 #[pv] w fun e w' => ∃ (a : Option Addr) (c : Nat) (zs : List Int), e = .returned (.slice a ts.length c) ∧ Numbers w' a ts.length c zs ∧ zs.Pairwise (· < ·) ∧ Below w.heap.size w w' := by
  have HG := Lib.hid h.given
  have hfew := h.few
  obtain ⟨vb, rfl, h2⟩ := h.has
  obtain ⟨k, hk, hm⟩ := h.mt
  have hfw := hm.few
  have c0 := cell_of_row w vb 0 _ _ _ h2
  obtain ⟨D, hD, hsz, _⟩ := hm
  have hD' : w.ownsMap Try.prog 3 heldR tb k D := hD
  have HS := Lib.hid (sorted_any hD' (by omega))
  have HND := Lib.hid (intKeys_nodup hD')
  have HLN : Hid ((intKeys D).length = ts.length) := Lib.hid (by rw [intKeys_len hD', hsz])
  have HWF : Hid (∀ x ∈ intKeys D, Fits x) := Lib.hid (fun x hx => by
    have h8 := intKeys_wf hD' Try.underlying3 x hx
    have e1 : IntKind.i64.min = -9223372036854775808 := by decide
    have e2 : IntKind.i64.max = 9223372036854775807 := by decide
    simp [Lit.wf, e1, e2] at h8
    exact h8)
  clear h h2 hD hD' hsz hk hfw hfew
  go_enter Try.func22, Try.ntmps22
  go_wp2_with (first | (go_at_call 30; refine (HG.out _ (Below.refl _ _)).mono ?_; rintro e w5 ⟨rfl, rfl⟩) | (go_at_call 35; refine (keys_any _ _).mono ?_; rintro e w6 ⟨rfl, rfl⟩) | (go_at_call 34; refine HS.out.mono ?_; rintro e w7 ⟨v7, ss, rfl, hp7, ho7, _, hb7⟩; have HP7 := Lib.hid hp7; have HO7 := Lib.hid ho7; have HB7 := Lib.hid hb7; clear hp7 ho7 hb7) | fail)
  go_ret
  have hlen : ss.length = ts.length := by rw [HP7.out.length_eq, HLN.out]
  have hml : (ss.mergeSort (fun x y => decide (x ≤ y))).length = ss.length := List.length_mergeSort ss
  have hO : OwnZ w7 3 (w.alloc (.cells #[.map (some tb)] 48)).heap.size v7 (ss.mergeSort (fun x y => decide (x ≤ y))) := ⟨by rw [hml]; exact HO7.out, fun z hz => HWF.out z (HP7.out.mem_iff.1 ((sortZ_perm ss).mem_iff.1 hz))⟩
  obtain ⟨a, c, rfl, _⟩ := hO.shape
  have hN := hO.numbers
  rw [hml, hlen] at hN ⊢
  exact ⟨a, c, _, rfl, hN, sortZ_up (HP7.out.nodup_iff.2 HND.out), bthen ((Below.refl _ _).alloc (Nat.le_refl _) _) HB7.out⟩
set_option linter.unusedSimpArgs false in
set_option maxRecDepth 100000 in
set_option maxHeartbeats 12800000 in
theorem towers_none {w : World} {pv : Value} (h : BoardNone w pv) : Calls Try.prog 22 #[pv] w fun e w' => e = .returned (.slice none 0 0) ∧ Below w.heap.size w w' := by
  have HG := Lib.hid (given_no h)
  clear h
  go_enter Try.func22, Try.ntmps22
  go_wp2_with (first | (go_at_call 30; refine (HG.out _ (Below.refl _ _)).mono ?_; rintro e w5 ⟨rfl, rfl⟩) | fail)
  go_ret
  exact ⟨rfl, Below.refl _ _⟩
end Go.Proofs.Ytijanllppbambaa
