/- The law's list of rows, beside a view that has the same. -/
import Derived.Test.YtdeilkpcmgcbaaaViewOf
namespace Go.Proofs.Ytdeilkpcmgcbaaa
open Go.RowKit Go.Maps

/-- The law's list of rows: its outs lie in memory that came in (w0). -/
structure ListAt (w0 w : World) (v : Value) (rs : List PRow) : Prop where
  it : ∃ a c, v = .slice a rs.length c ∧ SliceOf rowK w a rs.length c rs ∧ (0 < rs.length → ∀ x, a = some x → ∃ cs fr, w.heap[x.block]? = some (.cells cs 43 fr))
  rows : ∀ r ∈ rs, RowIn w0 r
theorem ListAt.nil (w0 w : World) : ListAt w0 w (.slice none 0 0) [] := ⟨⟨none, 0, rfl, SliceOf.nil _ _, fun h => by simp at h⟩, fun r hr => by cases hr⟩
theorem ListAt.but {w0 w w' : World} {v : Value} {rs : List PRow} {p : Nat} (h : ListAt w0 w v rs) (hb : But w.heap.size p w w') (hp : ∀ cs fr, w.heap[p]? ≠ some (.cells cs 43 fr)) (h0 : Below w0.heap.size w0 w') : ListAt w0 w' v rs := by
  obtain ⟨⟨a, c, rfl, hs, ht⟩, hr⟩ := h
  have hne : ∀ (_ : 0 < rs.length) (x : Addr), a = some x → x.block ≠ p := fun hl x e e2 => by
    obtain ⟨cs, fr, hc⟩ := ht hl x e
    rw [e2] at hc
    exact hp _ _ hc
  exact ⟨⟨a, c, rfl, hs.moved (B := w.heap.size) (p := p) (fun hl x e => ⟨hs.block hl x e, hne hl x e⟩) (fun x hx => (hr x hx).below h0) hb, fun hl x e => by
    obtain ⟨cs, fr, hc⟩ := ht hl x e
    exact ⟨cs, fr, hb.heap hc (lt_of_block hc) (hne hl x e)⟩⟩, hr⟩
theorem ListAt.below {w0 w w' : World} {v : Value} {rs : List PRow} (h : ListAt w0 w v rs) (hb : Below w.heap.size w w') (h0 : Below w0.heap.size w0 w') : ListAt w0 w' v rs :=
  h.but (But.of (p := w.heap.size) hb) (fun cs fr e => by have := lt_of_block e; omega) h0
theorem ListAt.own {w0 w : World} {B : Nat} {v : Value} {rs : List PRow} (h : OwnOf rowK 43 w B v rs) (hr : ∀ r ∈ rs, RowIn w0 r) (h0 : Below w0.heap.size w0 w) : ListAt w0 w v rs := by
  obtain ⟨a, c, rfl, _⟩ := h.shape
  refine ⟨⟨a, c, rfl, h.slice (fun r h9 => (hr r h9).below h0), fun hl x e => ?_⟩, hr⟩
  rcases h.1.2 with ⟨hv, hz⟩ | ⟨g, cap, cur, hv, _, hh, _⟩
  · omega
  · cases hv
    cases e
    exact ⟨_, _, hh⟩
/-- How the law's walk stands. -/
structure LSt (w0 w : World) (pv : Value) (b N : Nat) (lv : Value) (rs : List PRow) : Prop where
  view : ViewAt w pv b N rs
  list : ListAt w0 w lv rs
  below : Below w0.heap.size w0 w
  new : w0.heap.size ≤ b
theorem strip_at {xs ys : List PRow} (h : xs.map PRow.strip = ys.map PRow.strip) {j : Nat} (hj : j < ys.length) : (xs.getD j noRow).strip = (ys.getD j noRow).strip := by
  have hl : xs.length = ys.length := by simpa using congrArg List.length h
  have h1 : (xs.map PRow.strip)[j]? = (ys.map PRow.strip)[j]? := by rw [h]
  have hx : j < xs.length := by omega
  simp [hj, hx] at h1
  simpa [List.getD, hj, hx] using h1
theorem row_mem {ys : List PRow} {j : Nat} (hj : j < ys.length) : ys.getD j noRow ∈ ys := by
  rw [List.getD_eq_getElem?_getD, List.getElem?_eq_getElem hj]
  exact List.getElem_mem hj
end Go.Proofs.Ytdeilkpcmgcbaaa
