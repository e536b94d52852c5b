/- Bytes that are joined one behind the other, in a row of the call's own. No function of the program is named. -/
import Derived.Test.YtjmdkgjfcfnbiaaDoorLay
import Derived.Test.YtjmdkgjfcfnbiaaDoorLamp
namespace Go.Proofs.YtjmdkgjfcfnbiaaDoor
open Go.RowKit

theorem Tryd.bytes3 : (Tryd.prog.info? 5).map (fun i => (i.zero, i.size, i.bytes)) = some (some (.int .u8 0), 1, 1) := by kernel_rfl
/-- A row under way, all that was there at w0 unchanged. -/
structure Under (w0 : World) (u : Value) (l : List UInt8) (wr : World) : Prop where
  own : Own wr w0.heap.size u l
  below : Below w0.heap.size w0 wr
theorem Under.more {w0 w w' : World} {u : Value} {l : List UInt8} (h : Under w0 u l w) (hb : Below w.heap.size w w') : Under w0 u l w' :=
  ⟨h.own.below hb, h.below.trans (hb.mono h.below.size)⟩
theorem Under.grown {w0 w w' : World} {a a' : Option Addr} {n c n' c' : Nat} {l m : List UInt8} (h : Under w0 (.slice a n c) l w) (ho : Own w' w0.heap.size (.slice a' n' c') m) (hg : w.grownBy w' (Value.ownBlock (.slice a n c))) : Under w0 (.slice a' n' c') m w' :=
  ⟨ho, h.below.trans ⟨hg.os, hg.tape, hg.output, hg.size, fun k hk => hg.block k (Nat.lt_of_lt_of_le hk h.below.size) (fun e => by have := h.own.lt k e.symm; omega)⟩⟩
theorem Under.begun {w0 w1 : World} {c : Nat} (ho : w1.ownsRow w0.heap.size 5 1 (.slice (some ⟨w0.heap.size, 0, none⟩) 0 c) 0 []) (hg : w0.grownBy w1 none) : Under w0 (.slice (some ⟨w0.heap.size, 0, none⟩) 0 c) [] w1 :=
  ⟨ho, ⟨hg.os, hg.tape, hg.output, hg.size, fun k hk => hg.block k hk (by simp)⟩⟩
theorem Under.none (w0 : World) : Under w0 (.slice none 0 0) [] w0 := ⟨World.ownsRow_nil w0 _ _ _, Below.refl _ _⟩
theorem Under.shape {w0 w : World} {u : Value} {l : List UInt8} {F : Nat} (h : Under w0 u l w) (hF : l.length = F) : ∃ a c, u = .slice a F c := by
  obtain ⟨a, c, rfl, _⟩ := h.own.shape
  exact ⟨a, c, by rw [hF]⟩
theorem Under.row {w0 w : World} {a : Option Addr} {n c : Nat} {l : List UInt8} (h : Under w0 (.slice a n c) l w) : Row w a n c l := h.own.row
/-- A sum that was laid into the newest block reads as a row. -/
theorem laySum_row (w : World) {d : List UInt8} (hd : d.length = 32) : Row (laySum w d) (some ⟨w.heap.size, 0, none⟩) 32 32 d := row_all (laySum_heap w d) 32 hd.symm (by omega)
/-- A row that lies in no block of the grown slice reads as it read. -/
theorem Row.grown {w w' : World} {b o n c : Nat} {ob : Option Nat} {l : List UInt8} (h : Row w (some ⟨b, o, none⟩) n c l) (hg : w.grownBy w' ob) (hne : ∀ k, ob = some k → k < b) : Row w' (some ⟨b, o, none⟩) n c l := by
  obtain ⟨h1, h2, h3, h4, h5⟩ := h
  refine ⟨h1, h2, h3, h4, fun h0 => ?_⟩
  obtain ⟨b', off, e, hlt, hc⟩ := h5 h0
  cases e
  refine ⟨b, o, rfl, Nat.lt_of_lt_of_le hlt hg.size, fun j hj => ?_⟩
  rw [← hc j hj]
  exact World.cell?_of_block (a := ⟨b, o + j, none⟩) (hg.block b hlt (fun e => by have := hne b e.symm; omega))
theorem Under.old {w0 w : World} {u : Value} {l : List UInt8} (h : Under w0 u l w) : ∀ k, u.ownBlock = some k → k < w.heap.size := fun k e => (World.ownsRow.lt h.own k e).2
/-- What is shown of both secrets of a place, up to the m-th. -/
def pairTo (seed : List UInt8) (j m : Nat) : List UInt8 := (List.range m).flatMap fun k => shownOf (secretOf seed j k)
theorem pairTo_zero (seed : List UInt8) (j : Nat) : pairTo seed j 0 = [] := rfl
theorem pairTo_succ (seed : List UInt8) (j m : Nat) : pairTo seed j (m + 1) = pairTo seed j m ++ shownOf (secretOf seed j m) := flat_succ _ m
theorem pairTo_len (seed : List UInt8) (j m : Nat) : (pairTo seed j m).length = m * 32 := by
  induction m with
  | zero => rfl
  | succ m ih =>
    rw [pairTo_succ, List.length_append, ih, shownOf_len]
    omega
theorem allTo_pair (seed : List UInt8) (j : Nat) : allTo seed (j + 1) = allTo seed j ++ pairTo seed j 2 := by
  rw [allTo_succ, pairTo_succ, pairTo_succ, pairTo_zero, List.nil_append, List.append_assoc]
end Go.Proofs.YtjmdkgjfcfnbiaaDoor
