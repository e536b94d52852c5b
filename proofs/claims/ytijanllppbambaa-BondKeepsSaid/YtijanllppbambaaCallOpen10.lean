/- Calls of law 10 that came in as arguments, opened. No function of the program is named. -/
import Derived.Test.YtijanllppbambaaSumOpen
import Derived.Test.YtijanllppbambaaRecs
import Derived.Test.YtijanllppbambaaSliceOf
import Derived.Test.YtijanllppbambaaBondMem
namespace Go.Proofs.Ytijanllppbambaa
open Go.ChangeShapes Go.WideShapes Go.ChangeAt Go.RowKit Go.Deep

theorem drop_split {α : Type} (l : List α) (i k : Nat) : l.drop i = (l.drop i).take k ++ l.drop (i + k) := by
  rw [← List.drop_drop]
  exact (List.take_append_drop k _).symm
theorem int_cells {H : Type} {enc : TypeId × Value → H} {W : World} {fuel : Nat} {cs : List Value} {x : DataW H × List MemPlace} {t : TypeId} (ht : Try.prog.underlying t = some (.int .i64))
    (h : DataW.trod enc Try.prog W 0 (fun _ => true) true fuel t cs = some x) : ∃ z, cs = [.int .i64 z] ∧ Fits z := by
  obtain ⟨z, e, _, hw⟩ := DataW.trod_int ht h
  exact ⟨z, e, wf_fits hw⟩

theorem field_is {H : Type} {y : Option (DataW H × List MemPlace)} {xs : List (DataW H × List MemPlace)} {i : Nat} (hi : i < xs.length) (h : y = xs[i]?) : ∃ x, y = some x := ⟨xs[i], by rw [h, List.getElem?_eq_getElem hi]⟩
theorem slice_cells {α : Type} {H : Type} {enc : TypeId × Value → H} {W : World} {K : Sort8 α} {ts t : TypeId} (hu : Try.prog.underlying ts = some (.slice t)) (hk : Try.prog.cellsOf t = K.size)
    (el : ∀ (fuel : Nat) (cs : List Value) (x : DataW H × List MemPlace), DataW.trod enc Try.prog W 0 (fun _ => true) true fuel t cs = some x → ∃ y, K.ok W y ∧ cs = K.cells y)
    {fuel : Nat} {cs : List Value} {x : DataW H × List MemPlace} (h : DataW.trod enc Try.prog W 0 (fun _ => true) true fuel ts cs = some x) : ∃ a n c ys, cs = [.slice a n c] ∧ SliceOf K W a n c ys := by
  haveI : Inhabited α := ⟨K.dflt⟩
  rcases open_slice hu h with ⟨h0, _⟩ | ⟨a0, n, c, M, N, D, Pl, h1, _, hl, hmx, hM, _, hx⟩
  · exact ⟨_, _, _, [], h0, SliceOf.nil K W⟩
  · have hMc : M = c := by rw [hM]; simp
    rw [hk] at hx
    have each : ∀ j, j < n → ∃ y : α, K.ok W y ∧ ∀ i v, (K.cells y)[i]? = some v → W.cell? ((a0.add (j * K.size)).add i) = some v := by
      intro j hj
      obtain ⟨cs', h1, h2⟩ := hx j (by omega)
      obtain ⟨_, hlen, hcell⟩ := World.cells?_some h1
      obtain ⟨y, hy, rfl⟩ := el _ _ _ h2
      refine ⟨y, hy, fun i v hi => ?_⟩
      have hi' := (List.getElem?_eq_some_iff.1 hi).1
      have e0 := hcell i (by omega)
      rw [e0]
      exact hi
    obtain ⟨g, hg⟩ := choose_lt each
    refine ⟨some a0, n, c, (List.range n).map g, h1, by simp, hl, hmx, (fun e => by cases e), fun y hy => ?_, fun h0 => ?_⟩
    · obtain ⟨j, hj, rfl⟩ := List.mem_map.1 hy
      exact (hg j (List.mem_range.1 hj)).1
    · obtain ⟨b, off, spot⟩ := a0
      have hl0 := K.len W (g 0) (hg 0 h0).1
      have hp := K.pos
      have hc0 := (hg 0 h0).2 0 _ (List.getElem?_eq_getElem (by omega))
      have hspot : spot = none := by simpa [Addr.add] using World.cell?_spot hc0
      subst hspot
      have ad : ∀ o k : Nat, (⟨b, o, none⟩ : Addr).add k = ⟨b, o + k, none⟩ := fun o k => by simp [Addr.add]
      refine ⟨b, off, rfl, by simpa [Addr.add] using World.block_lt_of_cell? W _ hc0, fun j hj i v hi => ?_⟩
      have e : ((List.range n).map g).getD j K.dflt = g j := by simp [List.getD, hj]
      rw [e] at hi
      have := (hg j hj).2 i v hi
      rw [ad, ad] at this
      exact this
theorem ref_cells {H : Type} {enc : TypeId × Value → H} {W : World} {fuel : Nat} {cs : List Value} {x : DataW H × List MemPlace}
    (h : DataW.trod enc Try.prog W 0 (fun _ => true) true fuel 33 cs = some x) : ∃ s z, s.length = 32 ∧ Fits z ∧ cs = cellsOf s ++ [.int .i64 z] := by
  obtain ⟨xs, k, _, _, hl, hxl, hf⟩ := DataW.trod_struct Try.underlying33 h
  replace hl : cs.length = 33 := by rw [hl]; kernel_rfl
  replace hxl : xs.length = 2 := hxl
  obtain ⟨y0, h0⟩ := field_is (y := DataW.trod enc Try.prog W 0 (fun _ => true) true k 31 ((cs.drop 0).take (Try.prog.cellsOf 31))) (by omega) (hf 0 _ rfl)
  rw [show Try.prog.cellsOf 31 = 32 from by kernel_rfl] at h0
  obtain ⟨y1, h1⟩ := field_is (y := DataW.trod enc Try.prog W 0 (fun _ => true) true k 3 ((cs.drop 32).take (Try.prog.cellsOf 3))) (by omega) (hf 1 _ rfl)
  rw [show Try.prog.cellsOf 3 = 1 from by kernel_rfl] at h1
  obtain ⟨s0, g0, e0⟩ := sum_open (cs := ((cs.drop 0).take 32).toArray) (by simp; omega) h0
  replace e0 : (cs.drop 0).take 32 = cellsOf s0 := by simpa using e0
  obtain ⟨z1, e1, g1⟩ := int_cells Try.underlying3 h1
  refine ⟨s0, z1, g0, g1, ?_⟩
  have t0 := drop_split cs 0 32
  have t1 := drop_split cs 32 1
  have tl : cs.drop 33 = [] := List.drop_of_length_le (by omega)
  rw [List.drop_zero] at t0 e0
  rw [t0, e0, show (0 : Nat) + 32 = 32 from rfl, t1, e1, show (32 : Nat) + 1 = 33 from rfl, tl]
  simp
theorem chan_open {H : Type} {enc : TypeId × Value → H} {W : World} {fuel : Nat} {cs : List Value} {x : DataW H × List MemPlace}
    (h : DataW.trod enc Try.prog W 0 (fun _ => true) true fuel 35 cs = some x) : ∃ y : PChan, ChanIn y ∧ cs = y.cells := by
  obtain ⟨xs, k, _, _, hl, hxl, hf⟩ := DataW.trod_struct Try.underlying35 h
  replace hl : cs.length = 39 := by rw [hl]; kernel_rfl
  replace hxl : xs.length = 7 := hxl
  obtain ⟨y0, h0⟩ := field_is (y := DataW.trod enc Try.prog W 0 (fun _ => true) true k 3 ((cs.drop 0).take (Try.prog.cellsOf 3))) (by omega) (hf 0 _ rfl)
  rw [show Try.prog.cellsOf 3 = 1 from by kernel_rfl] at h0
  obtain ⟨y1, h1⟩ := field_is (y := DataW.trod enc Try.prog W 0 (fun _ => true) true k 3 ((cs.drop 1).take (Try.prog.cellsOf 3))) (by omega) (hf 1 _ rfl)
  rw [show Try.prog.cellsOf 3 = 1 from by kernel_rfl] at h1
  obtain ⟨y2, h2⟩ := field_is (y := DataW.trod enc Try.prog W 0 (fun _ => true) true k 3 ((cs.drop 2).take (Try.prog.cellsOf 3))) (by omega) (hf 2 _ rfl)
  rw [show Try.prog.cellsOf 3 = 1 from by kernel_rfl] at h2
  obtain ⟨y3, h3⟩ := field_is (y := DataW.trod enc Try.prog W 0 (fun _ => true) true k 33 ((cs.drop 3).take (Try.prog.cellsOf 33))) (by omega) (hf 3 _ rfl)
  rw [show Try.prog.cellsOf 33 = 33 from by kernel_rfl] at h3
  obtain ⟨y4, h4⟩ := field_is (y := DataW.trod enc Try.prog W 0 (fun _ => true) true k 2 ((cs.drop 36).take (Try.prog.cellsOf 2))) (by omega) (hf 4 _ rfl)
  rw [show Try.prog.cellsOf 2 = 1 from by kernel_rfl] at h4
  obtain ⟨y5, h5⟩ := field_is (y := DataW.trod enc Try.prog W 0 (fun _ => true) true k 3 ((cs.drop 37).take (Try.prog.cellsOf 3))) (by omega) (hf 5 _ rfl)
  rw [show Try.prog.cellsOf 3 = 1 from by kernel_rfl] at h5
  obtain ⟨y6, h6⟩ := field_is (y := DataW.trod enc Try.prog W 0 (fun _ => true) true k 3 ((cs.drop 38).take (Try.prog.cellsOf 3))) (by omega) (hf 6 _ rfl)
  rw [show Try.prog.cellsOf 3 = 1 from by kernel_rfl] at h6
  obtain ⟨z0, e0, g0⟩ := int_cells Try.underlying3 h0
  obtain ⟨z1, e1, g1⟩ := int_cells Try.underlying3 h1
  obtain ⟨z2, e2, g2⟩ := int_cells Try.underlying3 h2
  obtain ⟨s3, z3, g3, g3b, e3⟩ := ref_cells h3
  obtain ⟨z4, e4, g4⟩ := int_cells Try.underlying2 h4
  obtain ⟨z5, e5, g5⟩ := int_cells Try.underlying3 h5
  obtain ⟨z6, e6, g6⟩ := int_cells Try.underlying3 h6
  refine ⟨⟨z0, z1, z2, s3, z3, z4, z5, z6⟩, ⟨g0, g1, g2, g3, g3b, g4, g5, g6⟩, ?_⟩
  have t0 := drop_split cs 0 1
  have t1 := drop_split cs 1 1
  have t2 := drop_split cs 2 1
  have t3 := drop_split cs 3 33
  have t4 := drop_split cs 36 1
  have t5 := drop_split cs 37 1
  have t6 := drop_split cs 38 1
  have tl : cs.drop 39 = [] := List.drop_of_length_le (by omega)
  rw [List.drop_zero] at t0 e0
  rw [t0, e0, show (0 : Nat) + 1 = 1 from rfl, t1, e1, show (1 : Nat) + 1 = 2 from rfl, t2, e2, show (2 : Nat) + 1 = 3 from rfl, t3, e3, show (3 : Nat) + 33 = 36 from rfl, t4, e4, show (36 : Nat) + 1 = 37 from rfl, t5, e5, show (37 : Nat) + 1 = 38 from rfl, t6, e6, show (38 : Nat) + 1 = 39 from rfl, tl]
  simp [PChan.cells, refCells]
theorem call_open {H : Type} {enc : TypeId × Value → H} {W : World} {fuel : Nat} {cs : List Value} {x : DataW H × List MemPlace}
    (h : DataW.trod enc Try.prog W 0 (fun _ => true) true fuel 37 cs = some x) : ∃ y : PCall, CallIn y ∧ cs = y.cells := by
  obtain ⟨xs, k, _, _, hl, hxl, hf⟩ := DataW.trod_struct Try.underlying37 h
  replace hl : cs.length = 75 := by rw [hl]; kernel_rfl
  replace hxl : xs.length = 6 := hxl
  obtain ⟨y0, h0⟩ := field_is (y := DataW.trod enc Try.prog W 0 (fun _ => true) true k 3 ((cs.drop 0).take (Try.prog.cellsOf 3))) (by omega) (hf 0 _ rfl)
  rw [show Try.prog.cellsOf 3 = 1 from by kernel_rfl] at h0
  obtain ⟨y1, h1⟩ := field_is (y := DataW.trod enc Try.prog W 0 (fun _ => true) true k 3 ((cs.drop 1).take (Try.prog.cellsOf 3))) (by omega) (hf 1 _ rfl)
  rw [show Try.prog.cellsOf 3 = 1 from by kernel_rfl] at h1
  obtain ⟨y2, h2⟩ := field_is (y := DataW.trod enc Try.prog W 0 (fun _ => true) true k 2 ((cs.drop 2).take (Try.prog.cellsOf 2))) (by omega) (hf 2 _ rfl)
  rw [show Try.prog.cellsOf 2 = 1 from by kernel_rfl] at h2
  obtain ⟨y3, h3⟩ := field_is (y := DataW.trod enc Try.prog W 0 (fun _ => true) true k 31 ((cs.drop 3).take (Try.prog.cellsOf 31))) (by omega) (hf 3 _ rfl)
  rw [show Try.prog.cellsOf 31 = 32 from by kernel_rfl] at h3
  obtain ⟨y4, h4⟩ := field_is (y := DataW.trod enc Try.prog W 0 (fun _ => true) true k 35 ((cs.drop 35).take (Try.prog.cellsOf 35))) (by omega) (hf 4 _ rfl)
  rw [show Try.prog.cellsOf 35 = 39 from by kernel_rfl] at h4
  obtain ⟨y5, h5⟩ := field_is (y := DataW.trod enc Try.prog W 0 (fun _ => true) true k 3 ((cs.drop 74).take (Try.prog.cellsOf 3))) (by omega) (hf 5 _ rfl)
  rw [show Try.prog.cellsOf 3 = 1 from by kernel_rfl] at h5
  obtain ⟨z0, e0, g0⟩ := int_cells Try.underlying3 h0
  obtain ⟨z1, e1, g1⟩ := int_cells Try.underlying3 h1
  obtain ⟨z2, e2, g2⟩ := int_cells Try.underlying2 h2
  obtain ⟨s3, g3, e3⟩ := sum_open (cs := ((cs.drop 3).take 32).toArray) (by simp; omega) h3
  replace e3 : (cs.drop 3).take 32 = cellsOf s3 := by simpa using e3
  obtain ⟨c4, g4, e4⟩ := chan_open h4
  obtain ⟨z5, e5, g5⟩ := int_cells Try.underlying3 h5
  refine ⟨⟨z0, z1, z2, s3, c4, z5⟩, ⟨g0, g1, g2, g3, g4, g5⟩, ?_⟩
  have t0 := drop_split cs 0 1
  have t1 := drop_split cs 1 1
  have t2 := drop_split cs 2 1
  have t3 := drop_split cs 3 32
  have t4 := drop_split cs 35 39
  have t5 := drop_split cs 74 1
  have tl : cs.drop 75 = [] := List.drop_of_length_le (by omega)
  rw [List.drop_zero] at t0 e0
  rw [t0, e0, show (0 : Nat) + 1 = 1 from rfl, t1, e1, show (1 : Nat) + 1 = 2 from rfl, t2, e2, show (2 : Nat) + 1 = 3 from rfl, t3, e3, show (3 : Nat) + 32 = 35 from rfl, t4, e4, show (35 : Nat) + 39 = 74 from rfl, t5, e5, show (74 : Nat) + 1 = 75 from rfl, tl]
  simp [PCall.cells]
/-- A script. -/
theorem calls_open {H : Type} {enc : TypeId × Value → H} {W : World} {fuel : Nat} {cs : List Value} {x : DataW H × List MemPlace}
    (h : DataW.trod enc Try.prog W 0 (fun _ => true) true fuel 22 cs = some x) : ∃ a n c ys, cs = [.slice a n c] ∧ SliceOf callK W a n c ys :=
  slice_cells (K := callK) Try.underlying22 (by kernel_rfl) (fun _ _ _ h => call_open h) h
end Go.Proofs.Ytijanllppbambaa
