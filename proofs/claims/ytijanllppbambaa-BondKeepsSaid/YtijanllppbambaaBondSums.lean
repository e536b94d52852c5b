/- bond.Held, bond.Total, bond.Free: sums over maps, in whatever order they come. -/
import Derived.Test.YtijanllppbambaaBondGet
import Derived.Maps.RangeWalk
namespace Go.Proofs.Ytijanllppbambaa
open Go.RowKit Go.Maps

theorem sum_perm {l m : List Int} (h : l.Perm m) : l.sum = m.sum := by
  induction h with
  | nil => rfl
  | cons x _ ih => simp [ih]
  | swap x y l => simp; omega
  | trans _ _ h1 h2 => exact h1.trans h2
/-- What a hold adds to what a tower holds. -/
def heldP (n : Int) (hs : List PHE) (k : Int × Int) : Int := if k.1 = n then (match lookH k.1 k.2 hs with | some e => e.h.amount | none => 0) else 0
def heldF (n : Int) (hs : List PHE) (x : TwoD) : Int := heldP n hs (x.y, x.z)
theorem heldP_all (n : Int) {hs : List PHE} (hn : (hs.map hkey).Nodup) : ((hs.map hkey).map (heldP n hs)).sum = heldH n hs := by
  have h : ∀ xs : List PHE, (∀ x ∈ xs, lookH x.n x.h.ch.id hs = some x) → ((xs.map hkey).map (heldP n hs)).sum = heldH n xs := by
    intro xs
    induction xs with
    | nil => intro _; rfl
    | cons x xs ih =>
      intro hx
      have h1 := ih (fun y hy => hx y (by simp [hy]))
      have h2 := hx x (by simp)
      rw [List.map_cons, List.map_cons, List.sum_cons, h1, heldH]
      congr 1
      unfold heldP hkey
      simp only [h2]
  exact h hs (fun x hx => lookK_of_mem (key := hkey) hn hx)
theorem held_all {n : Int} {ts : List PTE} {hs : List PHE} (hi : Inv ts hs) {ss : List TwoD} (h1 : ss.Nodup) (h2 : ∀ x, x ∈ ss ↔ holF hs x ≠ none) : (ss.map (heldF n hs)).sum = heldH n hs := by
  have hp : (ss.map fun x : TwoD => (x.y, x.z)).Perm (hs.map hkey) := by
    refine (List.perm_ext_iff_of_nodup ?_ hi.hk).2 (fun k => ?_)
    · refine List.pairwise_map.2 (h1.imp ?_)
      intro a b hne e
      apply hne
      cases a
      cases b
      simp at e
      obtain ⟨e1, e2⟩ := e
      subst e1 e2
      rfl
    · rw [List.mem_map, List.mem_map]
      constructor
      · rintro ⟨x, hx, rfl⟩
        have h3 := (h2 x).1 hx
        unfold holF at h3
        cases h4 : lookH x.y x.z hs with
        | none => rw [h4] at h3; exact absurd rfl h3
        | some e => exact ⟨e, (lookK_mem h4).1, (lookK_mem h4).2⟩
      · rintro ⟨e, he, rfl⟩
        have h3 := hi.hin e he
        refine ⟨⟨e.n, e.h.ch.id, h3.n, h3.h.ch.id⟩, (h2 _).2 ?_, rfl⟩
        have h4 : lookH e.n e.h.ch.id hs = some e := lookK_of_mem (key := hkey) hi.hk he
        unfold holF
        rw [h4]
        simp
  have h5 := sum_perm (hp.map (heldP n hs))
  rw [heldP_all n hi.hk, List.map_map] at h5
  exact h5
theorem heldF_some {n : Int} {hs : List PHE} {x : TwoD} {c : Value} (h : holF hs x = some c) : ∃ e, e ∈ hs ∧ c = .agg e.h.cells.toArray ∧ heldF n hs x = if x.y = n then e.h.amount else 0 := by
  unfold holF at h
  cases h4 : lookH x.y x.z hs with
  | none => rw [h4] at h; cases h
  | some e =>
    rw [h4] at h
    refine ⟨e, (lookK_mem h4).1, by simpa using h.symm, ?_⟩
    unfold heldF heldP
    simp only [h4]
def lockF (ts : List PTE) (x : NumD) : Int := match lookT x.z ts with | some e => e.t.locked | none => 0
theorem lock_all {ts : List PTE} {hs : List PHE} (hi : Inv ts hs) {ss : List NumD} (h1 : ss.Nodup) (h2 : ∀ x, x ∈ ss ↔ towF ts x ≠ none) : (ss.map (lockF ts)).sum = totT ts := by
  have hp : (ss.map fun x : NumD => x.z).Perm (ts.map PTE.n) := by
    refine (List.perm_ext_iff_of_nodup ?_ hi.tk).2 (fun k => ?_)
    · refine List.pairwise_map.2 (h1.imp ?_)
      intro a b hne e
      apply hne
      cases a
      cases b
      simp at e
      subst e
      rfl
    · rw [List.mem_map, List.mem_map]
      constructor
      · rintro ⟨x, hx, rfl⟩
        have h3 := (h2 x).1 hx
        unfold towF at h3
        cases h4 : lookT x.z ts with
        | none => rw [h4] at h3; exact absurd rfl h3
        | some e => exact ⟨e, (lookK_mem h4).1, (lookK_mem h4).2⟩
      · rintro ⟨e, he, rfl⟩
        have h3 := hi.teIn he
        refine ⟨⟨e.n, h3.n⟩, (h2 _).2 ?_, rfl⟩
        have h4 : lookT e.n ts = some e := lookK_of_mem (key := PTE.n) hi.tk he
        unfold towF
        rw [h4]
        simp
  have h5 := sum_perm (hp.map (fun z => match lookT z ts with | some e => e.t.locked | none => 0))
  have h6 : ∀ xs : List PTE, (∀ x ∈ xs, lookT x.n ts = some x) → ((xs.map PTE.n).map (fun z => match lookT z ts with | some e => e.t.locked | none => 0)).sum = totT xs := by
    intro xs
    induction xs with
    | nil => intro _; rfl
    | cons x xs ih =>
      intro hx
      have h1 := ih (fun y hy => hx y (by simp [hy]))
      have h2 := hx x (by simp)
      rw [List.map_cons, List.map_cons, List.sum_cons, h1, totT, h2]
  rw [h6 ts (fun x hx => lookK_of_mem (key := PTE.n) hi.tk hx), List.map_map] at h5
  exact h5
theorem lockF_some {ts : List PTE} {x : NumD} {c : Value} (h : towF ts x = some c) : ∃ e, e ∈ ts ∧ c = .agg e.t.cells.toArray ∧ lockF ts x = e.t.locked := by
  unfold towF at h
  cases h4 : lookT x.z ts with
  | none => rw [h4] at h; cases h
  | some e =>
    rw [h4] at h
    refine ⟨e, (lookK_mem h4).1, by simpa using h.symm, ?_⟩
    unfold lockF
    simp only [h4]
theorem sum_end {α : Type} (f : α → Int) (ss : List α) (x : α) : ((ss ++ [x]).map f).sum = (ss.map f).sum + f x := by
  rw [List.map_append, List.sum_append]
  simp
theorem Try.zeroTwo : (Try.prog.info? 76).map (fun i => (i.zero, i.size, i.bytes)) = some (some (.agg ([.int .i64 0, .int .i64 0] : List Value).toArray), 2, 16) := by kernel_rfl
theorem grown_none {w w' : World} (h : Below w.heap.size w w') : w.grownBy w' none := ⟨h.os, h.tape, h.output, h.size, fun k hk _ => h.block k hk⟩
set_option linter.unusedSimpArgs false in
set_option maxRecDepth 100000 in
set_option maxHeartbeats 12800000 in
theorem total_any {B : Nat} {w : World} {pv : Value} {tb hb N : Nat} {ts : List PTE} {hs : List PHE} (h : BoardAt B w pv tb hb N ts hs) : Calls Try.prog 10 #[pv] w fun e w' => e = .returned (.int .i64 (totT ts)) ∧ Below w.heap.size w w' := by
  have HG := Lib.hid h.given
  obtain ⟨vb, rfl, h2⟩ := h.has
  obtain ⟨k, hk, hm⟩ := h.mt
  have hfew := h.few
  have HI := Lib.hid h.inv
  obtain ⟨R, hR⟩ : ∃ R, R = (totT ts) := ⟨_, rfl⟩
  have HAL : Hid (∀ ss : List NumD, ss.Nodup → (∀ x, x ∈ ss ↔ (towF ts) x ≠ none) → (ss.map (lockF ts)).sum = R) := Lib.hid (fun ss k1 k2 => by rw [hR]; exact lock_all h.inv k1 k2)
  rw [← hR]
  have c0 := cell_of_row w vb 0 _ _ _ h2
  have hfw := hm.few
  obtain ⟨D, hD, hsz, hFD⟩ := hm
  have HFD := Lib.hid hFD
  have HSZ : Hid (Maps.size D ≤ 100) := Lib.hid (by omega)
  have hD' : w.ownsMap Try.prog 3 heldR tb k D := hD
  clear h h2 hR hFD hsz hk hfew hfw hD
  go_enter Try.func10, Try.ntmps10
  go_wp2_with (first | (go_at_call 30; refine (HG.out _ (Below.refl _ _)).mono ?_; rintro e w5 ⟨rfl, rfl⟩) | (at_range; refine wpList_range_own _ rfl _ 48 rfl 3 67 Try.keyNum Try.underlying48 _ tb k _ rfl hD' ?_; intro w0 hrg0 hg0 hs0) | fail)
  go_frame
  go_loopw [3] (fun v wr => ∃ (left : Lit → Bool) (cnt : Nat) (ss : List NumD) (S : Int), wr.ranges Try.prog 3 heldR tb w.heap.size k D left cnt ∧ ss.length + cnt ≤ Maps.size D ∧ ComeK numK D left ss ∧ v = .int .i64 S ∧ S = (ss.map (lockF ts)).sum ∧ 0 ≤ S ∧ S ≤ (ss.length : Int) * 1125899906842624 ∧ Below w.heap.size w wr)
    (fun _ wr => wr.rangeLeft tb w.heap.size)
  case atStart => exact ⟨_, _, [], 0, hrg0, by simp, ComeK.start _ D, rfl, rfl, by omega, by simp, ⟨hg0.os, hg0.tape, hg0.output, hg0.size, fun k hk => hg0.block k hk (by simp)⟩⟩
  case round =>
    obtain ⟨left, cnt, ss, S, hrg, hcs, hC, rfl, hS, hS0, hS1, hB⟩ := hrel
    have HC := Lib.hid hC
    have HS := Lib.hid hS
    have HB := Lib.hid hB
    have HSL := Lib.hid hS1
    clear hC hS hB hS1
    go_wp2_with (first
      | (at_next; refine wpList_next_ranges _ rfl _ rfl 3 Try.keyNum heldR (fun x : NumD => Value.int .i64 x.z) id (fun key kl hk => numK.back key kl hk) (fun v _ _ => ⟨v, rfl⟩) tb w.heap.size k _ _ _ rfl hrg ?_ ?_)
      | fail)
    · intro hc0 hl0
      have hK := HC.out.all hl0 HFD.out
      have hRS : S = R := by rw [HS.out]; exact HAL.out ss hK.1 hK.2
      clear hK hl0 hrg hcs
      subst hRS
      go_wp2_with fail
      go_ret
      exact ⟨rfl, HB.out⟩
    · intro x c kl y y9 w2 cnt2 hkey hlk hv hat hrg2 hlt hg2 hs2 hen
      obtain ⟨rfl, rfl⟩ : y = DataW.held c ∧ y9 = [] := ⟨(congrArg Prod.fst (Option.some.inj hv)).symm, (congrArg Prod.snd (Option.some.inj hv)).symm⟩
      have hFx := atKey_F (K := numK) HFD.out hkey hat
      obtain ⟨u, hu, rfl, hadd⟩ := lockF_some hFx
      have hin := HI.out.towIn hu
      have hal := HI.out.locked0 hu
      have hmx := HI.out.lockedMax hu
      have HADD := Lib.hid hadd
      have HC2 := Lib.hid (HC.out.step hkey hlk (has_true_of_atKey hat))
      have hB2 : Below w.heap.size w w2 := HB.out.trans ⟨hg2.os, hg2.tape, hg2.output, hg2.size, fun k hk => hg2.block k (Nat.lt_of_lt_of_le hk HB.out.size) (fun e => by cases e; omega)⟩
      have HB2 := Lib.hid hB2
      have HRG2 := Lib.hid hrg2
      have HRG := Lib.hid hrg
      have HIN := Lib.hid hin
      have hS9 : S ≤ 100 * 1125899906842624 := by have h1 := HSZ.out; have h2 := HSL.out; omega
      have HCS : Hid ((ss ++ [x]).length + cnt2 ≤ Maps.size D) := Lib.hid (by rw [List.length_append]; simp; omega)
      have HLT : Hid (cnt2 < cnt) := Lib.hid hlt
      have HSM : Hid (((ss ++ [x]).map (lockF ts)).sum = S + (lockF ts) x) := Lib.hid (by rw [sum_end, ← HS.out])
      obtain ⟨m, hm9⟩ : ∃ m, m = u.t.locked := ⟨_, rfl⟩
      have hm0 : 0 ≤ m := by rw [hm9]; exact hal
      have hm1 : m ≤ 1125899906842624 := by rw [hm9]; exact hmx
      have HM9 := Lib.hid hm9
      have iw : IntKind.i64.wrap (S + m) = S + m := IntWalk.i64_in _ (by omega)
      have HF : Hid (S + m = ((ss ++ [x]).map (lockF ts)).sum ∧ 0 ≤ S + m ∧ S + m ≤ (((ss ++ [x]).length : Nat) : Int) * 1125899906842624) := Lib.hid (by
        have h1 := HSM.out
        rw [HADD.out, ← HM9.out] at h1
        have h3 := HSL.out
        refine ⟨h1.symm, by omega, ?_⟩
        rw [List.length_append, List.length_singleton]
        omega)
      clear hin hal hmx hadd hB2 hrg2 hrg hv hat hFx hkey hlk hg2 hs2 hcs hlt HC hm9
      go_upto_region 7 with (first | (refine wpList_var rfl rfl 67 rfl _ _ rfl noTow.cells.toArray Try.zeroTow rfl u.t.cells (fun _ => rfl) (fun _ => rfl) (PTow.len HIN.out.root) u.t.one ?_; intro g7 w9 n7 h7 k7; have H9 := Lib.hid h7; have K9 := Lib.hid k7; clear h7 k7 n7; go_frame) | fail)
      have hc9 := tow_at HIN.out.root (range_of H9.out)
      have c39 := hc9.locked
      rw [Nat.zero_add, ← HM9.out] at c39
      have HRG6 := Lib.hid (HRG2.out.kept (grown_none K9.out) (by simp) (by simp))
      have HB6 := Lib.hid (bthen HB2.out K9.out)
      clear hc9 HRG2 HB2 HB K9 H9
      go_wp2_with fail
      go_roundw
      case rel => exact ⟨_, cnt2, ss ++ [x], S + m, HRG6.out, HCS.out, HC2.out, rfl, HF.out.1, HF.out.2.1, HF.out.2.2, HB6.out⟩
      case measure => rw [HRG6.out.left_eq, HRG.out.left_eq]; exact HLT.out
set_option linter.unusedSimpArgs false in
set_option maxRecDepth 100000 in
set_option maxHeartbeats 12800000 in
theorem total_none {w : World} {pv : Value} (h : BoardNone w pv) : Calls Try.prog 10 #[pv] w fun e w' => e = .returned (.int .i64 0) ∧ Below w.heap.size w w' := by
  have HG := Lib.hid (given_no h)
  clear h
  go_enter Try.func10, Try.ntmps10
  go_wp2_with (first | (go_at_call 30; refine (HG.out _ (Below.refl _ _)).mono ?_; rintro e w5 ⟨rfl, rfl⟩) | fail)
  go_ret
  exact ⟨rfl, Below.refl _ _⟩
set_option linter.unusedSimpArgs false in
set_option maxRecDepth 100000 in
set_option maxHeartbeats 12800000 in
theorem held_any {B : Nat} {w : World} {pv : Value} {tb hb N : Nat} {ts : List PTE} {hs : List PHE} (h : BoardAt B w pv tb hb N ts hs) (n : Int) : Calls Try.prog 21 #[pv, .int .i64 n] w fun e w' => e = .returned (.int .i64 (heldH n hs)) ∧ Below w.heap.size w w' := by
  have HG := Lib.hid h.given
  obtain ⟨vb, rfl, h2⟩ := h.has
  obtain ⟨k, hk, hm⟩ := h.mh
  have hfew := h.few
  have HI := Lib.hid h.inv
  obtain ⟨R, hR⟩ : ∃ R, R = (heldH n hs) := ⟨_, rfl⟩
  have HAL : Hid (∀ ss : List TwoD, ss.Nodup → (∀ x, x ∈ ss ↔ (holF hs) x ≠ none) → (ss.map (heldF n hs)).sum = R) := Lib.hid (fun ss k1 k2 => by rw [hR]; exact held_all h.inv k1 k2)
  rw [← hR]
  have c0 := cell_of_row w vb 1 _ _ _ h2
  have hfw := hm.few
  obtain ⟨D, hD, hsz, hFD⟩ := hm
  have HFD := Lib.hid hFD
  have HSZ : Hid (Maps.size D ≤ 100) := Lib.hid (by omega)
  have hD' : w.ownsMap Try.prog 76 heldR hb k D := hD
  clear h h2 hR hFD hsz hk hfew hfw hD
  go_enter Try.func21, Try.ntmps21
  go_wp2_with (first | (go_at_call 30; refine (HG.out _ (Below.refl _ _)).mono ?_; rintro e w5 ⟨rfl, rfl⟩) | (at_range; refine wpList_range_own _ rfl _ 49 rfl 76 53 Try.keyTwo Try.underlying49 _ hb k _ rfl hD' ?_; intro w0 hrg0 hg0 hs0) | fail)
  go_frame
  go_loopw [5] (fun v wr => ∃ (left : Lit → Bool) (cnt : Nat) (ss : List TwoD) (S : Int), wr.ranges Try.prog 76 heldR hb w.heap.size k D left cnt ∧ ss.length + cnt ≤ Maps.size D ∧ ComeK twoK D left ss ∧ v = .int .i64 S ∧ S = (ss.map (heldF n hs)).sum ∧ 0 ≤ S ∧ S ≤ (ss.length : Int) * 1125899906842624 ∧ Below w.heap.size w wr)
    (fun _ wr => wr.rangeLeft hb w.heap.size)
  case atStart => exact ⟨_, _, [], 0, hrg0, by simp, ComeK.start _ D, rfl, rfl, by omega, by simp, ⟨hg0.os, hg0.tape, hg0.output, hg0.size, fun k hk => hg0.block k hk (by simp)⟩⟩
  case round =>
    obtain ⟨left, cnt, ss, S, hrg, hcs, hC, rfl, hS, hS0, hS1, hB⟩ := hrel
    have HC := Lib.hid hC
    have HS := Lib.hid hS
    have HB := Lib.hid hB
    have HSL := Lib.hid hS1
    clear hC hS hB hS1
    go_wp2_with (first
      | (at_next; refine wpList_next_ranges _ rfl _ rfl 76 Try.keyTwo heldR (fun x : TwoD => Value.agg #[.int .i64 x.y, .int .i64 x.z]) id (fun key kl hk => twoK.back key kl hk) (fun v _ _ => ⟨v, rfl⟩) hb w.heap.size k _ _ _ rfl hrg ?_ ?_)
      | fail)
    · intro hc0 hl0
      have hK := HC.out.all hl0 HFD.out
      have hRS : S = R := by rw [HS.out]; exact HAL.out ss hK.1 hK.2
      clear hK hl0 hrg hcs
      subst hRS
      go_wp2_with fail
      go_ret
      exact ⟨rfl, HB.out⟩
    · intro x c kl y y9 w2 cnt2 hkey hlk hv hat hrg2 hlt hg2 hs2 hen
      obtain ⟨rfl, rfl⟩ : y = DataW.held c ∧ y9 = [] := ⟨(congrArg Prod.fst (Option.some.inj hv)).symm, (congrArg Prod.snd (Option.some.inj hv)).symm⟩
      have hFx := atKey_F (K := twoK) HFD.out hkey hat
      obtain ⟨u, hu, rfl, hadd⟩ := heldF_some (n := n) hFx
      have hin := (HI.out.hin u hu).h
      have hal := HI.out.ha u hu
      have hmx := HI.out.amountMax hu
      have HADD := Lib.hid hadd
      have HC2 := Lib.hid (HC.out.step hkey hlk (has_true_of_atKey hat))
      have hB2 : Below w.heap.size w w2 := HB.out.trans ⟨hg2.os, hg2.tape, hg2.output, hg2.size, fun k hk => hg2.block k (Nat.lt_of_lt_of_le hk HB.out.size) (fun e => by cases e; omega)⟩
      have HB2 := Lib.hid hB2
      have HRG2 := Lib.hid hrg2
      have HRG := Lib.hid hrg
      have HIN := Lib.hid hin
      have hS9 : S ≤ 100 * 1125899906842624 := by have h1 := HSZ.out; have h2 := HSL.out; omega
      have HCS : Hid ((ss ++ [x]).length + cnt2 ≤ Maps.size D) := Lib.hid (by rw [List.length_append]; simp; omega)
      have HLT : Hid (cnt2 < cnt) := Lib.hid hlt
      have HSM : Hid (((ss ++ [x]).map (heldF n hs)).sum = S + (heldF n hs) x) := Lib.hid (by rw [sum_end, ← HS.out])
      obtain ⟨m, hm9⟩ : ∃ m, m = u.h.amount := ⟨_, rfl⟩
      obtain ⟨xy, hxy⟩ : ∃ z, z = x.y := ⟨_, rfl⟩
      obtain ⟨xz, hxz⟩ : ∃ z, z = x.z := ⟨_, rfl⟩
      have hm0 : 1 ≤ m := by rw [hm9]; exact hal.1
      have hm1 : m ≤ 1125899906842624 := by rw [hm9]; exact hmx
      have HM9 := Lib.hid hm9
      have HXY := Lib.hid hxy
      have iw : IntKind.i64.wrap (S + m) = S + m := IntWalk.i64_in _ (by omega)
      have HFIN : Hid (∀ a : Int, a = (if xy = n then m else 0) → S + a = ((ss ++ [x]).map (heldF n hs)).sum ∧ 0 ≤ S + a ∧ S + a ≤ (((ss ++ [x]).length : Nat) : Int) * 1125899906842624) := Lib.hid (fun a ha => by
        have h1 := HSM.out
        rw [HADD.out, ← HXY.out, ← HM9.out, ← ha] at h1
        have h3 := HSL.out
        refine ⟨h1.symm, by split at ha <;> omega, ?_⟩
        rw [List.length_append, List.length_singleton]
        split at ha <;> omega)
      rw [← hxy, ← hxz] at hen
      clear hin hal hmx hadd hB2 hrg2 hrg hv hat hFx hkey hlk hg2 hs2 hcs hlt HC hm9 hxy hxz
      go_upto_region 7 with (first | (refine wpList_new rfl 76 rfl ([.int .i64 0, .int .i64 0] : List Value).toArray Try.zeroTwo ?_; intro g6 w6 n6 h6 k6; have H6 := Lib.hid h6; have K6 := Lib.hid k6; have N6 := Lib.hid n6; clear h6 k6 n6; go_frame) | (refine wpList_new rfl 53 rfl noHold.cells.toArray Try.zeroHold ?_; intro g7 w7 n7 h7 k7; have H7 := Lib.hid h7; have K7 := Lib.hid (bthen K6.out k7); have N7 := Lib.hid (Nat.le_trans K6.out.size n7); have H67 := Lib.hid (keep k7 H6.out); have NE := Lib.hid (show g6 ≠ g7 by have := lt_of_block H6.out; omega); clear h7 k7 n7; go_frame) | (refine wpList_row10 rfl 76 _ _ rfl g6 [.int .i64 xy, .int .i64 xz] rfl rfl 76 [.int .i64 0, .int .i64 0] H67.out (by kernel_rfl) rfl (fun v hv => by simp at hv; rcases hv with rfl | rfl <;> rfl) ?_; intro w8 h8 k8; have H8 := Lib.hid h8; have K8 := Lib.hid (But.in K7.out k8 N6.out); have H78 := Lib.hid (k8.heap H7.out (lt_of_block H7.out) (fun e => NE.out e.symm)); clear h8 k8; go_frame) | (refine wpList_row10 rfl 53 _ _ rfl g7 u.h.cells rfl rfl 53 noHold.cells H78.out (hold_size HIN.out) (by rw [PHold.len noHold_in, PHold.len HIN.out]) u.h.one ?_; intro w9 h9 k9; have H9 := Lib.hid h9; have K9 := Lib.hid (But.in K8.out k9 N7.out); have H89 := Lib.hid (k9.heap H8.out (lt_of_block H8.out) NE.out); clear h9 k9; go_frame) | fail)
      have hc9 := hold_at HIN.out (range_of H9.out)
      have c39 := hc9.amount
      rw [Nat.zero_add, ← HM9.out] at c39
      have c70 := cell_of_row w9 g6 0 _ _ _ H89.out
      have HRG6 := Lib.hid (HRG2.out.kept (grown_none K9.out) (by simp) (by simp))
      have HB6 := Lib.hid (bthen HB2.out K9.out)
      clear hc9 HRG2 HB2 HB K6 K7 K8 K9 H6 H67 H7 H8 H9 H78 H89 N6 N7 NE
      by_cases hyn : xy = n
      · have HF := Lib.hid (HFIN.out m (by rw [if_pos hyn]))
        subst hyn
        clear HFIN
        go_wp2_with fail
        go_roundw
        case rel => exact ⟨_, cnt2, ss ++ [x], S + m, HRG6.out, HCS.out, HC2.out, rfl, HF.out.1, HF.out.2.1, HF.out.2.2, HB6.out⟩
        case measure => rw [HRG6.out.left_eq, HRG.out.left_eq]; exact HLT.out
      · have HF := Lib.hid (HFIN.out 0 (by rw [if_neg hyn]))
        clear HFIN
        go_wp2_with fail
        go_roundw
        case rel => exact ⟨_, cnt2, ss ++ [x], S, HRG6.out, HCS.out, HC2.out, rfl, by have h1 := HF.out.1; rw [Int.add_zero] at h1; exact h1, hS0, by have h1 := HF.out.2.2; rw [Int.add_zero] at h1; exact h1, HB6.out⟩
        case measure => rw [HRG6.out.left_eq, HRG.out.left_eq]; exact HLT.out
set_option linter.unusedSimpArgs false in
set_option maxRecDepth 100000 in
set_option maxHeartbeats 12800000 in
theorem held_none {w : World} {pv : Value} (h : BoardNone w pv) (n : Int) : Calls Try.prog 21 #[pv, .int .i64 n] w fun e w' => e = .returned (.int .i64 0) ∧ Below w.heap.size w w' := by
  have HG := Lib.hid (given_no h)
  clear h
  go_enter Try.func21, Try.ntmps21
  go_wp2_with (first | (go_at_call 30; refine (HG.out _ (Below.refl _ _)).mono ?_; rintro e w5 ⟨rfl, rfl⟩) | fail)
  go_ret
  exact ⟨rfl, Below.refl _ _⟩
end Go.Proofs.Ytijanllppbambaa
