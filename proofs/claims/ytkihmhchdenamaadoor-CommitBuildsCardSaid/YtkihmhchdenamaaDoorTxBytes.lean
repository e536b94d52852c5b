/- A transaction's bytes, plainly; a pen's text; a struct that is laid into a new block. -/
import Derived.Test.YtkihmhchdenamaaDoorTxMem
import Derived.Test.YtkihmhchdenamaaDoorLock
namespace Go.Proofs.YtkihmhchdenamaaDoor
open Go.RowKit

def inB (sh : Bool) (x : PIn) : List UInt8 := x.tx ++ (numB x.place ++ (numB x.way ++ (if sh then numB (x.pre.length : Nat) ++ x.pre else [])))
def insB (sh : Bool) : List PIn → List UInt8
  | [] => []
  | x :: xs => inB sh x ++ insB sh xs
def outsB : List POut → List UInt8
  | [] => []
  | x :: xs => outB x.m x.ws ++ outsB xs
def opB (x : POp) : List UInt8 := numB x.kind ++ (numB x.tower ++ (numB x.channel ++ (numB x.amount ++ (x.root ++ (numB (x.data.length : Nat) ++ x.data)))))
def frontB (sh : Bool) (x : PTx) : List UInt8 := numB (x.ins.length : Nat) ++ (insB sh x.ins ++ (numB (x.outs.length : Nat) ++ (outsB x.outs ++ opB x.op)))
theorem insB_append (sh : Bool) : ∀ u v : List PIn, insB sh (u ++ v) = insB sh u ++ insB sh v
  | [], _ => rfl
  | x :: u, v => by simp [insB, insB_append sh u v]
theorem outsB_append : ∀ u v : List POut, outsB (u ++ v) = outsB u ++ outsB v
  | [], _ => rfl
  | x :: u, v => by simp [outsB, outsB_append u v]
theorem insB_take (sh : Bool) {xs : List PIn} {k : Nat} (h : k < xs.length) : insB sh (xs.take (k + 1)) = insB sh (xs.take k) ++ inB sh (xs.getD k noIn) := by
  rw [take_getD (d := noIn) h, insB_append]
  simp [insB]
theorem outsB_take {xs : List POut} {k : Nat} (h : k < xs.length) : outsB (xs.take (k + 1)) = outsB (xs.take k) ++ outB (xs.getD k noOut).m (xs.getD k noOut).ws := by
  rw [take_getD (d := noOut) h, outsB_append]
  simp [outsB]
theorem insB_le (sh : Bool) {xs : List PIn} {k : Nat} : (insB sh (xs.take k)).length ≤ (insB sh xs).length := by
  have e : insB sh xs = insB sh (xs.take k) ++ insB sh (xs.drop k) := by rw [← insB_append, List.take_append_drop]
  rw [e, List.length_append]
  omega
theorem outsB_le {xs : List POut} {k : Nat} : (outsB (xs.take k)).length ≤ (outsB xs).length := by
  have e : outsB xs = outsB (xs.take k) ++ outsB (xs.drop k) := by rw [← outsB_append, List.take_append_drop]
  rw [e, List.length_append]
  omega
/-- What old bytes a pen writes as a text; all else as it was. -/
theorem ptext_typed {a : Option Addr} {n c B pb : Nat} {l q : List UInt8} (w : World) (hq : Row w a n c q) (hp : PenAt w B pb l) (hbz : B ≤ w.heap.size) (hB : 0 < n → ∀ x, a = some x → x.block < B) (hn : n ≤ 1000000) (hl : l.length ≤ 1000000) :
    Calls Tryd.prog 39 #[.pointer (some ⟨pb, 0, none⟩), .slice a n c] w fun r w' => r = .returned (.pointer (some ⟨pb, 0, none⟩)) ∧ PenAt w' B pb (l ++ (numB (q.length : Nat) ++ q)) ∧ But B pb w w' ∧ Keeps w w' := by
  have hql := hq.1
  have HP := Lib.hid hp
  have HQ := Lib.hid hq
  have HNB := Lib.hid hp.noBytes
  have HB := Lib.hid hB
  have HQL := Lib.hid hql
  clear hp hq hB hql
  go_enter Tryd.func39, Tryd.ntmps39
  go_wp2_with fail
  refine (pnum_typed _ HP.out hbz (by omega) (by omega)).mono ?_
  rintro r w1 ⟨rfl, hp1, hb1, hk1⟩
  have HP1 := Lib.hid hp1
  have HB1 := Lib.hid hb1
  have HK1 := Lib.hid hk1
  have HQ1 : Hid (Row w1 a n c q) := HQ.out.butB hb1 HNB.out HB.out
  have hbz1 : B ≤ w1.heap.size := Nat.le_trans hbz hb1.size
  have HLB : Hid ((l ++ numB (n : Int)).length + n ≤ 140737488355328) := by
    have h1 := numB_len (n : Int)
    show _ ≤ _
    rw [List.length_append]
    omega
  clear hp1 hb1 hk1
  go_wp2_with fail
  refine (write_typed HP1.out hbz1 HQ1.out HLB.out).mono ?_
  rintro r w2 ⟨rfl, hp2, hb2, hk2⟩
  have HP2 := Lib.hid hp2
  have HB2 := Lib.hid hb2
  have HK2 := Lib.hid hk2
  clear hp2 hb2 hk2
  go_wp2_with fail
  go_ret
  exact ⟨rfl, by rw [HQL.out, ← List.append_assoc]; exact HP2.out, HB1.out.trans HB2.out, HK1.out.trans HK2.out⟩
/-- A struct is laid into a new block. -/
def layT (T : TypeId) (z : List Value) (w : World) (cs : List Value) : World := (w.alloc (.cells z.toArray T)).setRow w.heap.size cs.toArray
theorem layT_is (T : TypeId) (z : List Value) (w : World) (cs : List Value) : (w.alloc (.cells z.toArray T)).setRow w.heap.size cs.toArray = layT T z w cs := rfl
theorem layT_heap (T : TypeId) (z : List Value) (w : World) (cs : List Value) : (layT T z w cs).heap[w.heap.size]? = some (.cells cs.toArray T (0, 0)) := setRow_heap _ _ _ _ _ _ (heap_alloc_new _ _)
theorem layT_self (T : TypeId) (z : List Value) (w : World) (cs : List Value) : Below w.heap.size w (layT T z w cs) := by
  have b : Below w.heap.size w (w.alloc (.cells z.toArray T)) := (Below.refl _ _).alloc (Nat.le_refl _) _
  exact b.trans (((but_setRow _ w.heap.size _).mono b.size).below (Nat.le_refl _))
theorem noIn_is : noIn.cells.toArray = #[.int .u8 0, .int .u8 0, .int .u8 0, .int .u8 0, .int .u8 0, .int .u8 0, .int .u8 0, .int .u8 0, .int .u8 0, .int .u8 0, .int .u8 0, .int .u8 0, .int .u8 0, .int .u8 0, .int .u8 0, .int .u8 0, .int .u8 0, .int .u8 0, .int .u8 0, .int .u8 0, .int .u8 0, .int .u8 0, .int .u8 0, .int .u8 0, .int .u8 0, .int .u8 0, .int .u8 0, .int .u8 0, .int .u8 0, .int .u8 0, .int .u8 0, .int .u8 0, .int .i64 0, .int .i64 0, .slice none 0 0] := rfl
theorem noOp_is : noOp.cells.toArray = #[.int .i64 0, .int .i64 0, .int .i64 0, .int .i64 0, .int .u8 0, .int .u8 0, .int .u8 0, .int .u8 0, .int .u8 0, .int .u8 0, .int .u8 0, .int .u8 0, .int .u8 0, .int .u8 0, .int .u8 0, .int .u8 0, .int .u8 0, .int .u8 0, .int .u8 0, .int .u8 0, .int .u8 0, .int .u8 0, .int .u8 0, .int .u8 0, .int .u8 0, .int .u8 0, .int .u8 0, .int .u8 0, .int .u8 0, .int .u8 0, .int .u8 0, .int .u8 0, .int .u8 0, .int .u8 0, .int .u8 0, .int .u8 0, .slice none 0 0] := rfl
theorem kept_in {w w' : World} {g : Nat} {cs : Array Value} {fr : Nat × Nat} (hk : Keeps w w') (h : w.heap[g]? = some (.cells cs 47 fr)) : w'.heap[g]? = some (.cells cs 47 fr) := (hk g _ _ _ h (by decide) (by decide) (by decide)).trans h
theorem kept_op {w w' : World} {g : Nat} {cs : Array Value} {fr : Nat × Nat} (hk : Keeps w w') (h : w.heap[g]? = some (.cells cs 35 fr)) : w'.heap[g]? = some (.cells cs 35 fr) := (hk g _ _ _ h (by decide) (by decide) (by decide)).trans h
theorem kept_tx {w w' : World} {g : Nat} {cs : Array Value} {fr : Nat × Nat} (hk : Keeps w w') (h : w.heap[g]? = some (.cells cs 38 fr)) : w'.heap[g]? = some (.cells cs 38 fr) := (hk g _ _ _ h (by decide) (by decide) (by decide)).trans h
end Go.Proofs.YtkihmhchdenamaaDoor
