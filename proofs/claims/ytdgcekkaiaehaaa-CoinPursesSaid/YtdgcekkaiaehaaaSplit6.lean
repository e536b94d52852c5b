/- What Part and Split come to. -/
import Derived.Test.YtdgcekkaiaehaaaCoin
import Derived.Test.YtdgcekkaiaehaaaOwnZ
import Derived.Deep.QuietTactic
import Derived.BigQuiet
namespace Go.Proofs.Ytdgcekkaiaehaaa
open Go.RowKit

theorem quo_1000 {m : Int} (h0 : 0 ≤ m) (h1 : m ≤ 1125899906842624000) : wrap64 ((wrap64 m).tdiv 1000) = m / 1000 := by
  have e : wrap64 m = m := by unfold wrap64; omega
  rw [e, Int.tdiv_eq_ediv_of_nonneg h0]
  unfold wrap64
  omega
set_option linter.unusedSimpArgs false in
set_option maxRecDepth 100000 in
set_option maxHeartbeats 1600000 in
theorem part_any (W : World) (n k : Int) (hk : Fits k) : Calls Try.prog 13 #[.int .i64 n, .int .i64 k] W fun e w' => e = .returned (.int .i64 (partOf n k)) ∧ Below W.heap.size W w' := by
  obtain ⟨k1, k2⟩ := hk
  obtain ⟨V, hV⟩ : ∃ V, V = partOf n k := ⟨_, rfl⟩
  rw [← hV]
  obtain ⟨B, hB⟩ : ∃ B, okAmount n = B := ⟨_, rfl⟩
  have hB2 : B = true → 0 ≤ n ∧ n ≤ 1125899906842624 := fun e => of_decide_eq_true (hB.trans e)
  have hri : ∀ (W : World), Calls Try.prog 10 #[.int .i64 n] W fun e w' => e = .returned (.bool B) ∧ W = w' := fun W => by rw [← hB]; exact right_any n W
  have HRI := Lib.hid hri
  have cases : (B = false ∧ V = 0) ∨ (B = true ∧ ¬ 0 ≤ k ∧ V = 0) ∨ (B = true ∧ 0 ≤ k ∧ k < 1000 ∧ IntKind.i64.wrap (n * k) = n * k ∧ V = n * k / 1000 ∧ 0 ≤ n * k ∧ n * k ≤ 1125899906842624000) ∨ (B = true ∧ 0 ≤ k ∧ ¬ k < 1000 ∧ V = n * 1000 / 1000 ∧ 0 ≤ n ∧ n ≤ 1125899906842624) := by
    have hv := hV
    unfold partOf at hv
    rw [hB] at hv
    cases B with
    | false => exact .inl ⟨rfl, by rw [hv]; simp⟩
    | true =>
      obtain ⟨g0, g1⟩ := hB2 rfl
      by_cases h2 : 0 ≤ k
      · rw [if_pos ⟨rfl, h2⟩] at hv
        by_cases h3 : k < 1000
        · rw [if_pos h3] at hv
          have m1 : n * k ≤ 1125899906842624 * 1000 := Int.mul_le_mul g1 (by omega) h2 (by omega)
          have m0 : 0 ≤ n * k := Int.mul_nonneg g0 h2
          exact .inr (.inr (.inl ⟨rfl, h2, h3, IntWalk.i64_in _ (by omega), hv, m0, by omega⟩))
        · rw [if_neg h3] at hv
          exact .inr (.inr (.inr ⟨rfl, h2, h3, hv, g0, g1⟩))
      · rw [if_neg (by simp [h2])] at hv
        exact .inr (.inl ⟨rfl, h2, hv⟩)
  clear hri hB hB2 hV
  rcases cases with ⟨rfl, rfl⟩ | ⟨rfl, d1, rfl⟩ | ⟨rfl, d1, d2, iw, rfl, m0, m1⟩ | ⟨rfl, d1, d2, rfl, m0, m1⟩
  · go_enter Try.func13, Try.ntmps13
    go_wp2_with (go_at_call 10; (with_reducible refine (HRI.out _).mono ?_); rintro e w' ⟨rfl, rfl⟩)
    go_ret
    exact ⟨rfl, Below.refl _ _⟩
  · have d1' : k < 0 := by omega
    go_enter Try.func13, Try.ntmps13
    go_wp2_with (go_at_call 10; (with_reducible refine (HRI.out _).mono ?_); rintro e w' ⟨rfl, rfl⟩)
    go_ret
    exact ⟨rfl, Below.refl _ _⟩
  · have d1' : ¬ k < 0 := by omega
    go_enter Try.func13, Try.ntmps13
    go_wp2_with (go_at_call 10; (with_reducible refine (HRI.out _).mono ?_); rintro e w' ⟨rfl, rfl⟩)
    go_ret
    exact ⟨rfl, Below.refl _ _⟩
  · have d1' : ¬ k < 0 := by omega
    go_enter Try.func13, Try.ntmps13
    go_wp2_with (go_at_call 10; (with_reducible refine (HRI.out _).mono ?_); rintro e w' ⟨rfl, rfl⟩)
    all_goals
      go_ret
      refine ⟨?_, Below.refl _ _⟩
    · rw [quo_1000 (by omega) (by omega)]; exact congrArg (fun z => Ending.returned (.int .i64 z)) (by omega)
    · obtain rfl : k = 1000 := by omega
      rw [quo_1000 (by omega) (by omega)]; exact congrArg (fun z => Ending.returned (.int .i64 z)) (by omega)
set_option linter.unusedSimpArgs false in
set_option maxRecDepth 100000 in
set_option maxHeartbeats 1600000 in
theorem split_no (W : World) (n p : Int) (h : okAmount n = false ∨ p < 1 ∨ 65536 < p) : Calls Try.prog 14 #[.int .i64 n, .int .i64 p] W fun e w' => ∃ a c, e = .returned (.slice a 0 c) ∧ Below W.heap.size W w' := by
  obtain ⟨B, hB⟩ : ∃ B, okAmount n = B := ⟨_, rfl⟩
  have hri : ∀ (W : World), Calls Try.prog 10 #[.int .i64 n] W fun e w' => e = .returned (.bool B) ∧ W = w' := fun W => by rw [← hB]; exact right_any n W
  have HRI := Lib.hid hri
  have cases : B = false ∨ (B = true ∧ p < 1) ∨ (B = true ∧ ¬ p < 1 ∧ 65536 < p) := by
    rw [hB] at h
    cases B with
    | false => exact .inl rfl
    | true =>
      by_cases h1 : p < 1
      · exact .inr (.inl ⟨rfl, h1⟩)
      · exact .inr (.inr ⟨rfl, h1, by rcases h with h | h | h; cases h; omega; exact h⟩)
  clear hri hB h
  rcases cases with rfl | ⟨rfl, d1⟩ | ⟨rfl, d1, d2⟩
  all_goals
    go_enter Try.func14, Try.ntmps14
    go_wp2_with (go_at_call 10; (with_reducible refine (HRI.out _).mono ?_); rintro e w' ⟨rfl, rfl⟩)
    go_ret
    exact ⟨none, 0, rfl, Below.refl _ _⟩
/-- A row of numbers of the call's own: a store. -/
theorem OwnZ.stored {w : World} {e : TypeId} {B g n c : Nat} {l : List Int} (h : OwnZ w e B (.slice (some ⟨g, 0, none⟩) n c) l) (hn : l.length = n) (j : Nat) (z : Int) (hz : Fits z) :
    OwnZ (w.setCell ⟨g, j, none⟩ (.int .i64 z)) e B (.slice (some ⟨g, 0, none⟩) n c) (l.set j z) ∧ w.grownBy (w.setCell ⟨g, j, none⟩ (.int .i64 z)) (some g) := by
  obtain ⟨h1, h2⟩ := h
  subst hn
  obtain ⟨k1, k2⟩ := h1.stored j (.int .i64 z)
  refine ⟨⟨?_, fun x hx => ?_⟩, k2⟩
  · have e1 : (cellsZ l).set j (.int .i64 z) = cellsZ (l.set j z) := by simp [cellsZ, List.map_set]
    rw [e1] at k1
    simpa using k1
  · rcases List.mem_or_eq_of_mem_set hx with hx | rfl
    · exact h2 x hx
    · exact hz
theorem OwnZ.cell {w : World} {e : TypeId} {B g n c : Nat} {l : List Int} (h : OwnZ w e B (.slice (some ⟨g, 0, none⟩) n c) l) (hn : l.length = n) (j : Nat) (hj : j < n) : w.cell? ⟨g, j, none⟩ = some (.int .i64 (l.getD j 0)) := by
  subst hn
  rw [World.ownsRow.cellAt h.1 j (by omega), cellsZ_get hj]
theorem OwnZ.frozen {w : World} {e : TypeId} {B g n c : Nat} {l : List Int} (h : OwnZ w e B (.slice (some ⟨g, 0, none⟩) n c) l) (hn : l.length = n) (j : Nat) : w.frozen? ⟨g, j, none⟩ = false := by
  subst hn
  exact World.ownsRow.frozenAt h.1 j
theorem infoZ : (Try.prog.info? 2).map (fun i => (i.zero, i.size, i.bytes)) = some (some (.int .i64 0), 1, 8) := by kernel_rfl
theorem madeZ (n : Nat) : (madeCells (Value.int .i64 0).cells (n * 1)).toList = cellsZ (List.replicate n 0) := by
  rw [Nat.mul_one, show (Value.int .i64 0).cells = #[.int .i64 0] from rfl, toList_madeCells_one]
  simp [cellsZ]
/-- The first k parts are laid. -/
structure Laid6 (w0 : World) (g P k : Nat) (l : List Int) (w : World) : Prop where
  own : OwnZ w 2 w0.heap.size (.slice (some ⟨g, 0, none⟩) P P) (l.take k ++ List.replicate (P - k) 0)
  below : Below w0.heap.size w0 w
theorem set_step (l : List Int) (P k : Nat) (hl : l.length = P) (hk : k < P) : (l.take k ++ List.replicate (P - k) 0).set k (l.getD k 0) = l.take (k + 1) ++ List.replicate (P - (k + 1)) 0 := by
  have hk' : k < l.length := by omega
  have e : List.replicate (P - k) (0 : Int) = 0 :: List.replicate (P - (k + 1)) 0 := by rw [show P - k = (P - (k + 1)) + 1 by omega]; rfl
  rw [e, List.set_append_right _ _ (by simp; omega)]
  have e2 : k - (l.take k).length = 0 := by simp; omega
  rw [e2, List.set_cons_zero, List.take_succ_eq_append_getElem hk', List.append_assoc]
  simp [List.getD, hk']
theorem World.grownBy.below6 {w w' : World} {B g : Nat} (h : w.grownBy w' (some g)) (hB : B ≤ g) (hw : g < w.heap.size) : Below B w w' :=
  ⟨h.os, h.tape, h.output, h.size, fun k hk => h.block k (by omega) (fun e => by have := Option.some.inj e; omega)⟩
set_option linter.unusedSimpArgs false in
set_option maxRecDepth 100000 in
set_option maxHeartbeats 1600000 in
theorem split_yes (W : World) (n : Int) (p : Nat) (h0 : 0 ≤ n) (h1 : n ≤ 1125899906842624) (hp : 1 ≤ p) (hp2 : p ≤ 65536) :
    Calls Try.prog 14 #[.int .i64 n, .int .i64 (p : Int)] W fun e w' => ∃ a c, e = .returned (.slice a p c) ∧ Numbers w' a p c (splitOf n p) ∧ Below W.heap.size W w' := by
  have hri : ∀ (W : World), Calls Try.prog 10 #[.int .i64 n] W fun e w' => e = .returned (.bool true) ∧ W = w' := fun W => by rw [← okAmount_yes h0 h1]; exact right_any n W
  have HRI := Lib.hid hri
  obtain ⟨Q, hQ⟩ : ∃ Q, Q = n / (p : Int) := ⟨_, rfl⟩
  obtain ⟨R, hR⟩ : ∃ R, R = n % (p : Int) := ⟨_, rfl⟩
  have q0 : 0 ≤ Q := by rw [hQ]; exact Int.ediv_nonneg h0 (by omega)
  have q1 : Q ≤ 1125899906842624 := by
    rw [hQ]
    have : n / (p : Int) ≤ n := Int.ediv_le_self _ h0
    omega
  have r0 : 0 ≤ R := by rw [hR]; exact Int.emod_nonneg _ (by omega)
  have r1 : R < (p : Int) := by rw [hR]; exact Int.emod_lt_of_pos _ (by omega)
  have eq : wrap64 (n.tdiv (p : Int)) = Q := by rw [Int.tdiv_eq_ediv_of_nonneg h0, ← hQ]; exact IntWalk.wrap64_in _ ⟨by omega, by omega⟩
  have er : n.tmod (p : Int) = R := by rw [Int.tmod_eq_emod_of_nonneg h0, ← hR]
  have hget : ∀ k, k < p → (splitOf n p).getD k 0 = Q + (if (k : Int) < R then 1 else 0) := fun k hk => by rw [splitOf_get n p k hk, ← hQ, ← hR]
  have hlen := splitOf_len n p
  obtain ⟨l, hl⟩ : ∃ l, l = splitOf n p := ⟨_, rfl⟩
  rw [← hl] at hget hlen ⊢
  have HGET := Lib.hid hget
  have HLEN := Lib.hid hlen
  have d1 : ¬ (p : Int) < 1 := by omega
  have d2 : ¬ 65536 < (p : Int) := by omega
  have d3 : ((p : Int) == 0) = false := by simp; omega
  have eq' : n / (p : Int) = Q := hQ.symm
  have er' : n % (p : Int) = R := hR.symm
  clear hri hQ hR hget hlen hl
  obtain ⟨i0, i1, i2, i3, i4⟩ := info_parts infoZ
  have I1 := Lib.hid i1
  have I2 := Lib.hid i2
  have I3 := Lib.hid i3
  have I4 := Lib.hid i4
  clear i1 i2 i3 i4
  go_enter Try.func14, Try.ntmps14
  go_wp2_with (go_at_call 10; (with_reducible refine (HRI.out _).mono ?_); rintro e w' ⟨rfl, rfl⟩)
  go_quiet (fail)
  go_wp2_with (at_make; refine wpList_make_full _ rfl _ _ 22 rfl (W.drewN nq).heap.size 2 i0 (.int .i64 0) 1 Try.underlying22 I1.out I2.out I3.out _ _ _ _ p rfl rfl rfl rfl (by rw [I4.out]; omega) (by unfold maxLen; omega) (Nat.le_refl _) ?_; intro w1 hown hgrow)
  rw [madeZ] at hown
  have hl0 : Laid6 W W.heap.size p 0 l w1 := ⟨⟨by simpa using hown, fun z hz => by have := List.eq_of_mem_replicate (by simpa using hz); subst this; exact ⟨by omega, by omega⟩⟩, ⟨hgrow.os, hgrow.tape, hgrow.output, hgrow.size, fun k hk => hgrow.block k hk (by simp)⟩⟩
  have HL0 := Lib.hid hl0
  obtain ⟨g, hg⟩ : ∃ g, g = W.heap.size := ⟨_, rfl⟩
  rw [← hg] at HL0 ⊢
  have HG := Lib.hid hg
  clear hown hgrow hl0 hg
  have hn63 : (p : Int) ≤ 9223372036854775807 := by omega
  go_loopw [30] (fun i wr => ∃ k : Nat, k ≤ p ∧ i = .int .i64 k ∧ Laid6 W g p k l wr) (fun i _ => p - (intOf i).toNat)
  case atStart => exact ⟨0, Nat.zero_le _, rfl, HL0.out⟩
  case round =>
    obtain ⟨k, hk, rfl, hat⟩ := hrel
    by_cases hkn : k < p
    · have f1 : (k : Int) < (p : Int) := by omega
      have f0 : (0 : Int) ≤ (k : Int) := by omega
      have ft : ((k : Int)).toNat = k := by omega
      have hlenl : (l.take k ++ List.replicate (p - k) (0 : Int)).length = p := by rw [List.length_append, List.length_take, List.length_replicate, HLEN.out]; omega
      have fz := hat.own.frozen hlenl k
      have cz := hat.own.cell hlenl k hkn
      have hgk := HGET.out k hkn
      have hstep := set_step l p k HLEN.out hkn
      obtain ⟨cur, hcur⟩ : ∃ cur, cur = (l.take k ++ List.replicate (p - k) (0 : Int)) := ⟨_, rfl⟩
      obtain ⟨nxt, hnxt⟩ : ∃ nxt, nxt = l.take (k + 1) ++ List.replicate (p - (k + 1)) (0 : Int) := ⟨_, rfl⟩
      rw [← hcur, ← hnxt] at hstep
      have hown := hat.own
      have hbel := hat.below
      rw [← hcur] at cz hlenl hown
      have gl : g < wr.heap.size := (hown.lt g rfl).2
      have gB : W.heap.size ≤ g := by rw [HG.out]; exact Nat.le_refl _
      obtain ⟨o1, g1⟩ := hown.stored hlenl k Q ⟨by omega, by omega⟩
      have hlen1 : (cur.set k Q).length = p := by rw [List.length_set]; exact hlenl
      have c1 := o1.cell hlen1 k hkn
      have z1 := o1.frozen hlen1 k
      have eg : (cur.set k Q).getD k 0 = Q := by simp [List.getD, hlenl, hkn]
      rw [eg] at c1
      by_cases hRk : (k : Int) < R
      · rw [if_pos hRk] at hgk
        obtain ⟨o2, g2⟩ := o1.stored hlen1 k (Q + 1) ⟨by omega, by omega⟩
        rw [List.set_set, ← hgk, hstep, hnxt] at o2
        rw [hgk] at o2
        have iw : IntKind.i64.wrap (Q + 1) = Q + 1 := IntWalk.i64_in _ (by omega)
        have HO := Lib.hid (show Laid6 W g p (k + 1) l _ from ⟨o2, hbel.trans ((World.grownBy.below6 g1 gB gl).trans (World.grownBy.below6 g2 gB (by simp; exact gl)))⟩)
        clear o1 g1 o2 g2 hgk hstep hown hbel hlenl hlen1 hcur hnxt hat eg
        go_wp2_with fail
        go_roundw
        case rel => exact ⟨k + 1, by omega, by go_num, HO.out⟩
        case measure => simp [intOf]; omega
      · rw [if_neg hRk, Int.add_zero] at hgk
        rw [← hgk, hstep, hnxt] at o1
        rw [hgk] at o1
        have HO := Lib.hid (show Laid6 W g p (k + 1) l _ from ⟨o1, hbel.trans (World.grownBy.below6 g1 gB gl)⟩)
        clear o1 g1 hgk hstep hown hbel hlenl hlen1 hcur hnxt hat eg
        go_wp2_with fail
        go_roundw
        case rel => exact ⟨k + 1, by omega, by go_num, HO.out⟩
        case measure => simp [intOf]; omega
    · have f1 : ¬ ((k : Int) < (p : Int)) := by omega
      obtain rfl : k = p := by omega
      have hown := hat.own
      have hbel := hat.below
      rw [List.take_of_length_le (by rw [HLEN.out]; exact Nat.le_refl _), Nat.sub_self, List.replicate_zero, List.append_nil] at hown
      have HR := Lib.hid (And.intro hown.numbers hbel)
      clear hown hbel hat
      go_wp2_with fail
      go_ret
      exact ⟨_, _, rfl, HR.out⟩
end Go.Proofs.Ytdgcekkaiaehaaa
