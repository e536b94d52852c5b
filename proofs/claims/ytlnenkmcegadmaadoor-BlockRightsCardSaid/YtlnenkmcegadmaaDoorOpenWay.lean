/- Ways, outs and tries that came in as arguments, opened. No function of the program is named. -/
import Derived.Test.YtlnenkmcegadmaaDoorOpens
import Derived.Test.YtlnenkmcegadmaaDoorLock
namespace Go.Proofs.YtlnenkmcegadmaaDoor
open Go.ChangeShapes Go.WideShapes Go.ChangeAt Go.RowKit Go.Deep

theorem numbers_cells {H : Type} {enc : TypeId × Value → H} {W : World} {fuel : Nat} {cs : List Value} {x : DataW H × List MemPlace}
    (h : DataW.trod enc Tryd.prog W 0 (fun _ => true) true fuel 80 cs = some x) : ∃ a n c zs, cs = [.slice a n c] ∧ Numbers W a n c zs := by
  rcases open_ints Tryd.underlying80 Tryd.underlying3 (by kernel_rfl) h with ⟨hcs, _⟩ | ⟨ad, l, cp, zs, hcs, _⟩
  · exact ⟨_, _, _, [], hcs, Numbers.nil W⟩
  · rw [hcs] at h
    obtain ⟨zs, hz⟩ := numbers_open Tryd.underlying80 Tryd.underlying3 (by kernel_rfl) h
    exact ⟨_, _, _, zs, hcs, hz⟩
instance : Inhabited PWay := ⟨noWay⟩
theorem Tryd.cellsWay : Tryd.prog.cellsOf 82 = 35 := by kernel_rfl
theorem Tryd.cellsOut : Tryd.prog.cellsOf 79 = 2 := by kernel_rfl
theorem Tryd.cellsInts : Tryd.prog.cellsOf 80 = 1 := by kernel_rfl
theorem Tryd.cellsInt : Tryd.prog.cellsOf 3 = 1 := by kernel_rfl
theorem Tryd.cellsInt64 : Tryd.prog.cellsOf 2 = 1 := by kernel_rfl
theorem Tryd.cellsWays : Tryd.prog.cellsOf 77 = 1 := by kernel_rfl
theorem Tryd.cellsBytes : Tryd.prog.cellsOf 45 = 1 := by kernel_rfl
theorem way_open {H : Type} {enc : TypeId × Value → H} {W : World} {fuel : Nat} {cs : List Value} {x : DataW H × List MemPlace}
    (h : DataW.trod enc Tryd.prog W 0 (fun _ => true) true fuel 82 cs = some x) : ∃ y : PWay, WayIn W y ∧ cs = y.cells := by
  obtain ⟨xs, k, _, _, hl, hxl, hf⟩ := DataW.trod_struct Tryd.underlying82 h
  rw [Tryd.cellsWay] at hl
  replace hxl : xs.length = 4 := hxl
  obtain ⟨y0, h0⟩ := field_is (y := DataW.trod enc Tryd.prog W 0 (fun _ => true) true k 80 ((cs.drop 0).take (Tryd.prog.cellsOf 80))) (by omega) (hf 0 _ rfl)
  obtain ⟨y1, h1⟩ := field_is (y := DataW.trod enc Tryd.prog W 0 (fun _ => true) true k 23 ((cs.drop 1).take (Tryd.prog.cellsOf 23))) (by omega) (hf 1 _ rfl)
  obtain ⟨y2, h2⟩ := field_is (y := DataW.trod enc Tryd.prog W 0 (fun _ => true) true k 3 ((cs.drop 33).take (Tryd.prog.cellsOf 3))) (by omega) (hf 2 _ rfl)
  obtain ⟨y3, h3⟩ := field_is (y := DataW.trod enc Tryd.prog W 0 (fun _ => true) true k 3 ((cs.drop 34).take (Tryd.prog.cellsOf 3))) (by omega) (hf 3 _ rfl)
  rw [Tryd.cellsInts] at h0
  rw [cellsSum] at h1
  rw [Tryd.cellsInt] at h2 h3
  obtain ⟨a, n, c, zs, e0, g0⟩ := numbers_cells h0
  obtain ⟨s, hs, e1⟩ := sum_open (cs := ((cs.drop 1).take 32).toArray) (by simp; omega) h1
  obtain ⟨z2, e2, g2⟩ := int_cells Tryd.underlying3 h2
  obtain ⟨z3, e3, g3⟩ := int_cells Tryd.underlying3 h3
  have e1' : (cs.drop 1).take 32 = cellsOf s := by simpa using e1
  refine ⟨⟨a, n, c, zs, s, z2, z3⟩, ⟨g0, hs, g2, g3⟩, ?_⟩
  have t0 := drop_split cs 0 1
  have t1 := drop_split cs 1 32
  have t2 := drop_split cs 33 1
  have t3 := drop_split cs 34 1
  have t4 : cs.drop 35 = [] := List.drop_of_length_le (by omega)
  rw [List.drop_zero] at t0
  rw [List.drop_zero] at e0
  show cs = .slice a n c :: (cellsOf s ++ [.int .i64 z2, .int .i64 z3])
  rw [t0, e0, show (0 : Nat) + 1 = 1 from rfl, t1, e1', show (1 : Nat) + 32 = 33 from rfl, t2, e2, show (33 : Nat) + 1 = 34 from rfl, t3, e3, show (34 : Nat) + 1 = 35 from rfl, t4]
  simp
theorem ways_cells {H : Type} {enc : TypeId × Value → H} {W : World} {fuel : Nat} {cs : List Value} {x : DataW H × List MemPlace}
    (h : DataW.trod enc Tryd.prog W 0 (fun _ => true) true fuel 77 cs = some x) : ∃ a n c ys, cs = [.slice a n c] ∧ Ways W a n c ys := by
  rcases open_slice Tryd.underlying77 h with ⟨h0, _⟩ | ⟨a0, n, c, M, N, D, Pl, h1, _, hl, hmx, hM, _, hx⟩
  · exact ⟨_, _, _, [], h0, Ways.nil W⟩
  · have hMc : M = c := by rw [hM]; simp
    rw [Tryd.cellsWay] at hx
    have each : ∀ j, j < n → ∃ y : PWay, WayIn W y ∧ ∀ i v, y.cells[i]? = some v → W.cell? ((a0.add (j * 35)).add i) = some v := by
      intro j hj
      obtain ⟨cs', h1, h2⟩ := hx j (by omega)
      obtain ⟨_, hlen, hcell⟩ := World.cells?_some h1
      obtain ⟨y, hy, rfl⟩ := way_open h2
      refine ⟨y, hy, fun i v hi => ?_⟩
      have hi' := (List.getElem?_eq_some_iff.1 hi).1
      have e0 := hcell i (by omega)
      rw [e0]
      exact hi
    obtain ⟨g, hg⟩ := choose_lt each
    refine ⟨some a0, n, c, (List.range n).map g, h1, by simp, hl, hmx, (fun e => by cases e), fun y hy => ?_, fun h0 => ?_⟩
    · obtain ⟨j, hj, rfl⟩ := List.mem_map.1 hy
      exact (hg j (List.mem_range.1 hj)).1
    · obtain ⟨b, off, spot⟩ := a0
      have hc0 := (hg 0 (by omega)).2 0 _ rfl
      have hspot : spot = none := by simpa [Addr.add] using World.cell?_spot hc0
      subst hspot
      have ad : ∀ o k : Nat, (⟨b, o, none⟩ : Addr).add k = ⟨b, o + k, none⟩ := fun o k => by simp [Addr.add]
      refine ⟨b, off, rfl, by simpa [Addr.add] using World.block_lt_of_cell? W _ hc0, fun j hj i v hi => ?_⟩
      have e : ((List.range n).map g).getD j noWay = g j := by simp [List.getD, hj]
      rw [e] at hi
      have := (hg j hj).2 i v hi
      rw [ad, ad] at this
      exact this
theorem out_open {H : Type} {enc : TypeId × Value → H} {W : World} {fuel : Nat} {cs : List Value} {x : DataW H × List MemPlace}
    (h : DataW.trod enc Tryd.prog W 0 (fun _ => true) true fuel 79 cs = some x) : ∃ m a n c ys, cs = [.int .i64 m, .slice a n c] ∧ Fits m ∧ Ways W a n c ys := by
  obtain ⟨xs, k, _, _, hl, hxl, hf⟩ := DataW.trod_struct Tryd.underlying79 h
  rw [Tryd.cellsOut] at hl
  replace hxl : xs.length = 2 := hxl
  obtain ⟨y0, h0⟩ := field_is (y := DataW.trod enc Tryd.prog W 0 (fun _ => true) true k 2 ((cs.drop 0).take (Tryd.prog.cellsOf 2))) (by omega) (hf 0 _ rfl)
  obtain ⟨y1, h1⟩ := field_is (y := DataW.trod enc Tryd.prog W 0 (fun _ => true) true k 77 ((cs.drop 1).take (Tryd.prog.cellsOf 77))) (by omega) (hf 1 _ rfl)
  rw [Tryd.cellsInt64] at h0
  rw [Tryd.cellsWays] at h1
  obtain ⟨m, e0, g0⟩ := int_cells Tryd.underlying2 h0
  obtain ⟨a, n, c, ys, e1, g1⟩ := ways_cells h1
  refine ⟨m, a, n, c, ys, ?_, g0, g1⟩
  have t0 := drop_split cs 0 1
  have t1 := drop_split cs 1 1
  have t2 : cs.drop 2 = [] := List.drop_of_length_le (by omega)
  rw [List.drop_zero] at t0 e0
  rw [t0, e0, show (0 : Nat) + 1 = 1 from rfl, t1, e1, show (1 : Nat) + 1 = 2 from rfl, t2]
  rfl
end Go.Proofs.YtlnenkmcegadmaaDoor
