/- Law 8's Small: whether a transaction is small enough for a statement. -/
import Derived.Test.YtlnenkmcegadmaaDoorTx
namespace Go.Proofs.YtlnenkmcegadmaaDoor
open Go.RowKit

/-- Few ways, with few keys each; the walk's own words. -/
def fewO (xs : List PWay) : Bool := decide (xs.length ≤ 20) && xs.all fun x => decide (x.ks.length ≤ 20)
def smallT (x : PTx) : Bool := decide (x.inn ≤ 20) && (decide (x.on ≤ 20) && (decide (x.sn ≤ 20) && (decide (x.op.n ≤ 6000) && ((x.ins.all fun y => decide (y.n ≤ 100)) && x.outs.all fun y => fewO y.ws))))
set_option linter.unusedSimpArgs false in
set_option maxRecDepth 100000 in
set_option maxHeartbeats 12800000 in
theorem small8_law {w : World} {x : PTx} (h : TxIn w x) : Calls Tryd.prog 20 #[.agg x.cells.toArray] w fun e w' => e = .returned (.int .i64 (if smallT x = true then 0 else 1)) ∧ Below w.heap.size w w' := by
  have hi63 := h.ins.len63
  have ho63 := h.outs.len63
  have hs63 := h.signs.len63
  have hd63 : (x.op.n : Int) ≤ 9223372036854775807 := by have h1 := h.op.data.2.1; have h2 := h.op.data.2.2.1; unfold maxLen at h2; omega
  have b1 : Below w.heap.size w (w.alloc (.cells x.cells.toArray 50)) := (Below.refl _ _).alloc (Nat.le_refl _) _
  have hrg := range_of (heap_alloc_new w (.cells x.cells.toArray 50))
  have H1 := Lib.hid (h.below b1)
  have HR0 := Lib.hid h.op.root
  obtain ⟨R, hR⟩ : ∃ R, smallT x = R := ⟨_, rfl⟩
  rw [hR]
  have HRS := Lib.hid hR
  clear h hR
  go_enter Tryd.func20, Tryd.ntmps20
  go_upto_region 1 with (fail)
  revert b1 hrg H1
  generalize (w.alloc (.cells x.cells.toArray 50)) = w1
  obtain ⟨g, hg⟩ : ∃ g, g = w.heap.size := ⟨_, rfl⟩
  rw [← hg]
  intro b1 hrg H1
  rw [hg] at b1
  have HB := Lib.hid b1
  have c0 := tx_ins hrg
  have c1 := tx_outs hrg
  have c39 := tx_signs HR0.out hrg
  have cd := op_data HR0.out (tx_op hrg)
  rw [Nat.zero_add] at c1 c39 cd
  replace cd : w1.cell? ⟨g, 38, none⟩ = some (.slice x.op.a x.op.n x.op.c) := cd
  clear hrg hg b1
  have hR := HRS.out
  unfold smallT at hR
  clear HRS
  by_cases g1 : x.inn ≤ 20
  · have f1 : ¬ 20 < (x.inn : Int) := by omega
    rw [decide_eq_true g1, Bool.true_and] at hR
    by_cases g2 : x.on ≤ 20
    · have f2 : ¬ 20 < (x.on : Int) := by omega
      rw [decide_eq_true g2, Bool.true_and] at hR
      by_cases g3 : x.sn ≤ 20
      · have f3 : ¬ 20 < (x.sn : Int) := by omega
        rw [decide_eq_true g3, Bool.true_and] at hR
        by_cases g4 : x.op.n ≤ 6000
        · have f4 : ¬ 6000 < (x.op.n : Int) := by omega
          rw [decide_eq_true g4, Bool.true_and] at hR
          have HR := Lib.hid hR
          clear hR
          go_wp2
          clear f1 f2 f3 f4 c39 cd
          go_loop [3] (fun i => ∃ k : Nat, k ≤ x.inn ∧ i = .int .i64 k ∧ R = ((x.ins.drop k).all (fun y => decide (y.n ≤ 100)) && x.outs.all fun y => fewO y.ws)) (fun i => x.inn - (intOf i).toNat)
          case atStart => exact ⟨0, Nat.zero_le _, rfl, HR.out.symm⟩
          case round =>
            obtain ⟨k, hk, rfl, hRk⟩ := hrel
            clear HR
            by_cases hkn : k < x.inn
            · have f1 : (k : Int) < (x.inn : Int) := by omega
              have f0 : (0 : Int) ≤ (k : Int) := by omega
              have ft : ((k : Int)).toNat = k := by omega
              obtain ⟨b1, o1, e1, _, hc1⟩ := H1.out.ins.2.2.2.2.2 (by omega)
              have hy : InIn w1 (x.ins.getD k noIn) := H1.out.ins.get hkn
              have hrx : w1.rangeAt b1 (o1 + k * 35) (x.ins.getD k noIn).cells := hc1 k hkn
              rw [drop_getD (d := noIn) (by rw [H1.out.ins.1]; exact hkn)] at hRk
              have hp : w1.cell? ⟨b1, o1 + k * 35 + 34, none⟩ = some (.slice (x.ins.getD k noIn).a (x.ins.getD k noIn).n (x.ins.getD k noIn).c) := in_pre (InIn.tx hy) hrx
              have hy63 : ((x.ins.getD k noIn).n : Int) ≤ 9223372036854775807 := by have h1 := (InIn.pre hy).2.1; have h2 := (InIn.pre hy).2.2.1; unfold maxLen at h2; omega
              revert hp hRk hy63
              generalize x.ins.getD k noIn = y
              intro hRk hp hy63
              replace hRk : R = ((decide (y.n ≤ 100) && (x.ins.drop (k + 1)).all fun y => decide (y.n ≤ 100)) && x.outs.all fun y => fewO y.ws) := hRk
              have c0' := c0
              rw [e1] at c0'
              clear hc1 hrx hy
              by_cases g5 : y.n ≤ 100
              · have f5 : ¬ 100 < (y.n : Int) := by omega
                rw [decide_eq_true g5, Bool.true_and] at hRk
                have HRK := Lib.hid hRk
                have E1 := Lib.hid e1
                have C0 := Lib.hid c0
                clear hRk e1 c0
                go_wp2
                go_round
                case rel => exact ⟨k + 1, by omega, by go_num, HRK.out⟩
                case measure => simp [intOf]; omega
              · have f5 : 100 < (y.n : Int) := by omega
                rw [decide_eq_false g5, Bool.false_and, Bool.false_and] at hRk
                subst hRk
                clear e1 c0
                go_wp2
                go_ret
                exact ⟨rfl, HB.out⟩
            · have f1 : ¬ ((k : Int) < (x.inn : Int)) := by omega
              have e1 : x.ins.drop k = [] := List.drop_of_length_le (by rw [H1.out.ins.1]; omega)
              rw [e1] at hRk
              replace hRk : R = x.outs.all fun y => fewO y.ws := hRk
              have HRK := Lib.hid hRk
              clear hRk e1
              go_wp2
              go_loop [4] (fun i => ∃ k : Nat, k ≤ x.on ∧ i = .int .i64 k ∧ R = (x.outs.drop k).all fun y => fewO y.ws) (fun i => x.on - (intOf i).toNat)
              case atStart => exact ⟨0, Nat.zero_le _, rfl, HRK.out⟩
              case round =>
                obtain ⟨j, hj, rfl, hRj⟩ := hrel
                clear HRK
                by_cases hjn : j < x.on
                · have f2 : (j : Int) < (x.on : Int) := by omega
                  have f0 : (0 : Int) ≤ (j : Int) := by omega
                  have ft : ((j : Int)).toNat = j := by omega
                  obtain ⟨b2, o2, e2, _, hc2⟩ := H1.out.outs.2.2.2.2.2 (by omega)
                  have hy : OutIn w1 (x.outs.getD j noOut) := H1.out.outs.get hjn
                  have hrx : w1.rangeAt b2 (o2 + j * 2) (x.outs.getD j noOut).cells := hc2 j hjn
                  rw [drop_getD (d := noOut) (by rw [H1.out.outs.1]; exact hjn)] at hRj
                  have hp : w1.cell? ⟨b2, o2 + j * 2 + 1, none⟩ = some (.slice (x.outs.getD j noOut).a (x.outs.getD j noOut).n (x.outs.getD j noOut).c) := hrx 1 _ rfl
                  revert hp hRj hy
                  generalize x.outs.getD j noOut = y
                  intro hRj hy hp
                  replace hRj : R = (fewO y.ws && (x.outs.drop (j + 1)).all fun y => fewO y.ws) := hRj
                  unfold fewO at hRj
                  rw [hy.ws.1] at hRj
                  have hy63 : (y.n : Int) ≤ 9223372036854775807 := by have h1 := hy.ws.2.1; have h2 := hy.ws.2.2.1; unfold maxLen at h2; omega
                  have c1' := c1
                  rw [e2] at c1'
                  have HY := Lib.hid hy
                  have C1 := Lib.hid c1
                  clear hc2 hrx hy e2 c1
                  by_cases g5 : y.n ≤ 20
                  · have f5 : ¬ 20 < (y.n : Int) := by omega
                    rw [decide_eq_true g5, Bool.true_and] at hRj
                    have HRJ := Lib.hid hRj
                    clear hRj
                    go_wp2
                    go_loop [5] (fun i => ∃ k : Nat, k ≤ y.n ∧ i = .int .i64 k ∧ R = ((y.ws.drop k).all (fun z => decide (z.ks.length ≤ 20)) && (x.outs.drop (j + 1)).all fun y => fewO y.ws)) (fun i => y.n - (intOf i).toNat)
                    case atStart => exact ⟨0, Nat.zero_le _, rfl, HRJ.out⟩
                    case round =>
                      obtain ⟨i, hi, rfl, hRi⟩ := hrel
                      clear HRJ
                      by_cases hin : i < y.n
                      · have f3 : (i : Int) < (y.n : Int) := by omega
                        have f4 : (0 : Int) ≤ (i : Int) := by omega
                        have fi : ((i : Int)).toNat = i := by omega
                        obtain ⟨b3, o3, e3, _, hc3⟩ := HY.out.ws.2.2.2.2.2 (by omega)
                        have hz := HY.out.ws.way hin
                        have cz := way_keys (hc3 i hin)
                        rw [ways_drop (by rw [HY.out.ws.1]; exact hin)] at hRi
                        have hz1 := hz.keys.1
                        have hz63 : ((y.ws.getD i noWay).n : Int) ≤ 9223372036854775807 := by have h1 := hz.keys.2.1; have h2 := hz.keys.2.2.1; unfold maxLen at h2; omega
                        revert cz hRi hz1 hz63
                        generalize y.ws.getD i noWay = z
                        intro hRi cz hz1 hz63
                        replace hRi : R = ((decide (z.ks.length ≤ 20) && (y.ws.drop (i + 1)).all fun z => decide (z.ks.length ≤ 20)) && (x.outs.drop (j + 1)).all fun y => fewO y.ws) := hRi
                        rw [hz1] at hRi
                        have hp' := hp
                        rw [e3] at hp'
                        have HP := Lib.hid hp
                        clear hz hz1 hc3 e3 hp
                        by_cases g6 : z.n ≤ 20
                        · have f6 : ¬ 20 < (z.n : Int) := by omega
                          rw [decide_eq_true g6, Bool.true_and] at hRi
                          have HRI := Lib.hid hRi
                          clear hRi
                          go_wp2
                          go_round
                          case rel => exact ⟨i + 1, by omega, by go_num, HRI.out⟩
                          case measure => simp [intOf]; omega
                        · have f6 : 20 < (z.n : Int) := by omega
                          rw [decide_eq_false g6, Bool.false_and, Bool.false_and] at hRi
                          subst hRi
                          go_wp2
                          go_ret
                          exact ⟨rfl, HB.out⟩
                      · have f3 : ¬ ((i : Int) < (y.n : Int)) := by omega
                        have e3 : y.ws.drop i = [] := List.drop_of_length_le (by rw [HY.out.ws.1]; omega)
                        rw [e3] at hRi
                        replace hRi : R = (x.outs.drop (j + 1)).all fun y => fewO y.ws := hRi
                        have HRI := Lib.hid hRi
                        clear hRi e3
                        go_wp2
                        go_round
                        case rel => exact ⟨j + 1, by omega, by go_num, HRI.out⟩
                        case measure => simp [intOf]; omega
                  · have f5 : 20 < (y.n : Int) := by omega
                    rw [decide_eq_false g5, Bool.false_and, Bool.false_and] at hRj
                    subst hRj
                    go_wp2
                    go_ret
                    exact ⟨rfl, HB.out⟩
                · have f2 : ¬ ((j : Int) < (x.on : Int)) := by omega
                  have e2 : x.outs.drop j = [] := List.drop_of_length_le (by rw [H1.out.outs.1]; omega)
                  rw [e2] at hRj
                  replace hRj : R = true := hRj
                  subst hRj
                  clear e2
                  go_wp2
                  go_ret
                  exact ⟨rfl, HB.out⟩
        · have f4 : 6000 < (x.op.n : Int) := by omega
          rw [decide_eq_false g4, Bool.false_and] at hR
          subst hR
          go_wp2
          go_ret
          exact ⟨rfl, HB.out⟩
      · have f3 : 20 < (x.sn : Int) := by omega
        rw [decide_eq_false g3, Bool.false_and] at hR
        subst hR
        go_wp2
        go_ret
        exact ⟨rfl, HB.out⟩
    · have f2 : 20 < (x.on : Int) := by omega
      rw [decide_eq_false g2, Bool.false_and] at hR
      subst hR
      go_wp2
      go_ret
      exact ⟨rfl, HB.out⟩
  · have f1 : 20 < (x.inn : Int) := by omega
    rw [decide_eq_false g1, Bool.false_and] at hR
    subst hR
    go_wp2
    go_ret
    exact ⟨rfl, HB.out⟩
end Go.Proofs.YtlnenkmcegadmaaDoor
