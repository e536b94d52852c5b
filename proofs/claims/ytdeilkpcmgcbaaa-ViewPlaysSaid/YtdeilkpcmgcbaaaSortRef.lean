/- slices.SortFunc at places: the places in their order. -/
import Derived.Test.YtdeilkpcmgcbaaaAppendRef
import Derived.Shelf.SlSortCmp.NoneTotal
namespace Go.Proofs.Ytdeilkpcmgcbaaa
open Go.RowKit Go.Sort

/-- Does a place stand ahead of another one? -/
def refLt (x y : RefD) : Bool := refLess x.tx y.tx x.place y.place
theorem cmp_less : ∀ (s t : List UInt8) (p q : Int), s.length = t.length → decide (firstOf [Lib.compareBytes s t, Lib.compareInt p q] < 0) = refLess s t p q
  | [], [], p, q, _ => by
    simp only [Lib.compareBytes, firstOf, if_true, refLess]
    rcases Int.lt_trichotomy p q with h | h | h
    · simp [Lib.compareInt, h]
    · simp [Lib.compareInt, h]
    · have h2 : ¬ p < q := by omega
      simp [Lib.compareInt, h, h2]
  | [], _ :: _, _, _, h => by simp at h
  | _ :: _, [], _, _, h => by simp at h
  | a :: s, b :: t, p, q, h => by
    have ih := cmp_less s t p q (by simpa using h)
    by_cases e : a.toNat = b.toNat
    · obtain rfl : a = b := UInt8.toNat_inj.1 e
      have h1 : ¬ a < a := UInt8.lt_irrefl a
      rw [refLess, if_pos rfl, ← ih]
      simp only [Lib.compareBytes, h1, if_false]
    · by_cases hlt : a < b
      · have h2 : a.toNat < b.toNat := UInt8.lt_iff_toNat_lt.1 hlt
        rw [refLess, if_neg e]
        simp [Lib.compareBytes, hlt, firstOf, h2]
      · have h2 : ¬ a.toNat < b.toNat := fun h9 => hlt (UInt8.lt_iff_toNat_lt.2 h9)
        have h3 : b < a := UInt8.lt_iff_toNat_lt.2 (by omega)
        rw [refLess, if_neg e]
        simp [Lib.compareBytes, hlt, h3, firstOf, h2]
theorem lt_refCmp (x y : RefD) : ltOf refCmp x y = refLt x y := cmp_less x.tx y.tx x.place y.place (by rw [x.hs, y.hs])
theorem RefD.ext9 {x y : RefD} (h1 : x.tx = y.tx) (h2 : x.place = y.place) : x = y := by
  cases x
  cases y
  cases h1
  cases h2
  rfl
theorem refLt_total {x y : RefD} (h1 : refLt x y = false) (h2 : refLt y x = false) : x = y := by
  obtain ⟨h3, h4⟩ := refLess_total (by rw [x.hs, y.hs]) h1 h2
  exact RefD.ext9 h3 h4
theorem refLt_trans {x y z : RefD} (h1 : refLt x y = true) (h2 : refLt y z = true) : refLt x z = true := refLess_trans (by rw [x.hs, y.hs]) (by rw [y.hs, z.hs]) h1 h2
theorem refLt_irrefl (x : RefD) : refLt x x = false := refLess_irrefl _ _
theorem refLt_asymm {x y : RefD} (h : refLt x y = true) : refLt y x = false := by
  cases h2 : refLt y x with
  | false => rfl
  | true => have h3 := refLt_trans h h2; rw [refLt_irrefl] at h3; cases h3
theorem swoRef : SWO (ltOf refCmp) where
  irrefl x := by rw [lt_refCmp]; exact refLt_irrefl x
  trans x y z h1 h2 := by rw [lt_refCmp] at *; exact refLt_trans h1 h2
  ntrans x y z h1 h2 := by
    rw [lt_refCmp] at *
    cases h3 : refLt x z with
    | false => rfl
    | true =>
      cases h4 : refLt y x with
      | true => rw [refLt_trans h4 h3] at h2; cases h2
      | false => obtain rfl := refLt_total h1 h4; rw [h3] at h2; cases h2
def sortRefs (ss : List RefD) : List RefD := ss.mergeSort fun x y => !(ltOf refCmp) y x
theorem sortRefs_perm (ss : List RefD) : (sortRefs ss).Perm ss := List.mergeSort_perm ss _
theorem sortRefs_len (ss : List RefD) : (sortRefs ss).length = ss.length := (sortRefs_perm ss).length_eq
theorem sortRefs_sorted {ss : List RefD} (h : ss.Nodup) : (sortRefs ss).Pairwise (fun x y => refLt x y = true) := by
  have h1 := List.pairwise_mergeSort (le := fun x y : RefD => !(ltOf refCmp) y x) (fun a b c h1 h2 => by
    simp only [lt_refCmp, Bool.not_eq_true'] at *
    cases h3 : refLt c a with
    | false => rfl
    | true =>
      cases h4 : refLt c b with
      | true => rw [h4] at h2; cases h2
      | false =>
        cases h5 : refLt b c with
        | true => rw [refLt_trans h5 h3] at h1; cases h1
        | false => obtain rfl := refLt_total h4 h5; rw [h3] at h1; cases h1) (fun a b => by
    simp only [lt_refCmp]
    cases h3 : refLt b a with
    | false => rfl
    | true => rw [refLt_asymm h3]; rfl) ss
  have h2 : (sortRefs ss).Nodup := (sortRefs_perm ss).nodup_iff.2 h
  refine (List.Pairwise.and h1 h2).imp fun {a b} hab => ?_
  obtain ⟨h3, h4⟩ := hab
  simp only [lt_refCmp, Bool.not_eq_true'] at h3
  cases h5 : refLt a b with
  | true => rfl
  | false => exact absurd (refLt_total h5 h3) h4

/-! ### In memory -/
theorem flat_flatK (ss : List RefD) : (flatK RefD.cells 33 ss.toArray).toList = ss.flatMap RefD.cells := by
  have hl : (ss.flatMap RefD.cells).length = ss.length * 33 := flat_len (fun x _ => x.len)
  apply List.ext_getElem?
  intro t
  by_cases ht : t < ss.length * 33
  · have h1 : t / 33 < ss.length := Nat.div_lt_of_lt_mul (by omega)
    have h2 : t % 33 < 33 := Nat.mod_lt _ (by omega)
    have h3 := flat_get (f := RefD.cells) (k := 33) (d := noRef) (xs := ss) (fun x _ => x.len) h1 h2
    have h4 : t / 33 * 33 + t % 33 = t := Nat.div_add_mod' t 33
    rw [h4] at h3
    have h5 : t < (flatK RefD.cells 33 ss.toArray).size := by rw [size_flatK]; simpa using ht
    rw [Array.getElem?_toList, Array.getElem?_eq_getElem h5, h3, ← getElem!_pos (flatK RefD.cells 33 ss.toArray) t h5, get_flatK _ _ _ _ (by simpa using ht)]
    have h6 : (ss.toArray)[t / 33]! = ss.getD (t / 33) noRef := by
      rw [getElem!_pos ss.toArray (t / 33) (by simpa using h1)]
      simp [List.getD, h1]
    rw [h6]
    have h7 : t % 33 < (ss.getD (t / 33) noRef).cells.length := by rw [RefD.len]; exact h2
    rw [List.getElem?_eq_getElem h7, getElem!_pos (ss.getD (t / 33) noRef).cells (t % 33) h7]
  · rw [List.getElem?_eq_none (by rw [Array.length_toList, size_flatK]; simpa using ht), List.getElem?_eq_none (by omega)]
theorem holds_refs {w : World} {g : Nat} {cur : Array Value} {e : TypeId} {ss : List RefD} (hb : w.heap[g]? = some (.cells cur e (0, 0))) (ht : cur.toList.take (ss.length * 33) = ss.flatMap RefD.cells) : HoldsK RefD.cells 33 w g 0 ss.toArray := by
  intro j hj
  have hj' : j < ss.length * 33 := by simpa using hj
  refine ⟨?_, by simp [World.frozen?, hb]⟩
  have h1 : (cur.toList.take (ss.length * 33))[j]? = (flatK RefD.cells 33 ss.toArray).toList[j]? := by rw [ht, flat_flatK]
  rw [List.getElem?_take_of_lt hj'] at h1
  simp only [World.cell?, hb, Nat.zero_add]
  simp only [Option.isSome_none, Bool.false_eq_true, if_false]
  rw [← Array.getElem?_toList, h1, Array.getElem?_toList, Array.getElem?_eq_getElem hj, getElem!_pos (flatK RefD.cells 33 ss.toArray) j hj]
  rfl
theorem heap_sortedR {w : World} {g n : Nat} {os : Array Obj} {cur : Array Value} {e : TypeId} {fr : Nat × Nat} (F : Array Value) (hb : w.heap[g]? = some (.cells cur e fr)) :
    (grow (putRow id (Sort.ahead w n) g 0 F) os).heap[g]? = some (.cells (putCells id 0 F cur) e fr) := by
  have hg : g < w.heap.size := (Array.getElem?_eq_some_iff.1 hb).1
  rw [heap_grow_old _ _ (by simpa using hg)]
  simp [putRow, mapBlock, Sort.ahead, Array.getElem?_modify, hb, onCells]
theorem grownBy_sortedR {w : World} {g n : Nat} {os : Array Obj} (F : Array Value) : w.grownBy (grow (putRow id (Sort.ahead w n) g 0 F) os) (some g) := by
  refine ⟨rfl, rfl, rfl, by simp, fun k hk hne => ?_⟩
  rw [heap_grow_old _ _ (by simpa using hk)]
  have : g ≠ k := fun e => hne (by rw [e])
  simp [putRow, mapBlock, Sort.ahead, Array.getElem?_modify, this]
theorem take_putCellsR (cur F : Array Value) (h : F.size ≤ cur.size) : (putCells id 0 F cur).toList.take F.size = F.toList := by
  apply List.ext_getElem?
  intro j
  by_cases hj : j < F.size
  · rw [List.getElem?_take_of_lt hj, Array.getElem?_toList, Array.getElem?_toList, Array.getElem?_eq_getElem hj]
    simp [putCells, hj, show j < cur.size by omega]
  · rw [List.getElem?_eq_none (by rw [List.length_take]; omega), List.getElem?_eq_none (by simpa using hj)]
theorem Try.sortRefLaid (W : World) (g off cap : Nat) (ss : List RefD) (hH : HoldsK RefD.cells 33 W g off ss.toArray) (hg : g < W.heap.size) (hs : ss.length ≤ 1000000) :
    Calls Try.prog 46 #[.slice (some ⟨g, off, none⟩) ss.length cap, .func (.func 38) #[] #[]] W fun e w' => e = .returned (.tuple #[]) ∧ ∃ n os, w' = sortWorldK RefD.cells 33 W g off n (sortRefs ss).toArray os := by
  have eg : ∀ args w, (callFunc 38 args).run Try.prog w = .ok (.enter 38 args) w := enters_of Try.func38 (by kernel_rfl) rfl
  have h := AnyQ.slices_SortFunc_total Try.laysSort 33 Try.isAgg32 (by intro w; exact Try.sizeOf32 w) RefD.cells RefD.len RefD.one refCmp swoRef 38 #[] g off cap ss.toArray W eg
    (fun m os dk _ x y => compare_any x y _) hH hg (by simp; omega) (fun x y h1 h2 => refLt_total (by rw [← lt_refCmp]; exact h1) (by rw [← lt_refCmp]; exact h2))
  have e : ss.toArray.size = ss.length := by simp
  rw [e] at h
  exact h
theorem sortRef_any {W : World} {B : Nat} {v : Value} {ss : List RefD} (h : OwnOf refK 32 W B v ss) (hs : ss.length ≤ 1000000) :
    Calls Try.prog 46 #[v, .func (.func 38) #[] #[]] W fun e w' => e = .returned (.tuple #[]) ∧ OwnOf refK 32 w' B v (sortRefs ss) ∧ W.grownBy w' v.ownBlock := by
  have hnone : ∀ (p : Option Addr) (cap : Nat), Calls Try.prog 46 #[.slice p 0 cap, .func (.func 38) #[] #[]] W fun e w' => e = .returned (.tuple #[]) ∧ w' = W := fun p cap => AnyF.slices_SortFunc_none Try.laysSort p cap _ W
  rcases h.1.2 with ⟨rfl, hz⟩ | ⟨g, cap, cur, rfl, hbase, hh, h1, h2, h3, h4⟩
  · obtain rfl : ss = [] := List.eq_nil_of_length_eq_zero hz
    refine (hnone none 0).mono ?_
    rintro e w' ⟨rfl, rfl⟩
    have hsort : sortRefs ([] : List RefD) = [] := by simp [sortRefs]
    rw [hsort]
    exact ⟨rfl, h, ⟨rfl, rfl, rfl, Nat.le_refl _, fun _ _ _ => rfl⟩⟩
  · have hlen : (sortRefs ss).length = ss.length := sortRefs_len ss
    refine (Try.sortRefLaid W g 0 cap ss (holds_refs hh h4) (lt_of_block hh) hs).mono ?_
    rintro e w' ⟨rfl, n, os, rfl⟩
    refine ⟨rfl, ⟨⟨?_, .inr ⟨g, cap, _, ?_, hbase, heap_sortedR _ hh, ?_, h2, ?_, ?_⟩⟩, fun x _ => x.len⟩, grownBy_sortedR _⟩
    · have := flat_len (f := refK.cells) (k := refK.size) (xs := sortRefs ss) (fun x _ => x.len)
      exact this
    · rw [hlen]
    · rw [hlen]; exact h1
    · have h5 : (putCells id 0 (flatK RefD.cells 33 (sortRefs ss).toArray) cur).size = cur.size := by simp [putCells]
      rw [h5, h3]
    · have h6 : (flatK RefD.cells 33 (sortRefs ss).toArray).size = (sortRefs ss).length * 33 := by simp
      have h7 := take_putCellsR cur (flatK RefD.cells 33 (sortRefs ss).toArray) (by rw [h6, hlen, h3]; exact Nat.mul_le_mul_right _ h1)
      rw [h6, flat_flatK] at h7
      exact h7
end Go.Proofs.Ytdeilkpcmgcbaaa
