/- The transaction that takes a part, plainly. -/
import Derived.Test.YtnjnomebcggccaaGreatDoorJustOuts
import Derived.Test.YtnjnomebcggccaaGreatDoorSign
import Derived.Test.YtnjnomebcggccaaGreatDoorComRef
import Derived.Test.YtnjnomebcggccaaGreatDoorHashAny
namespace Go.Proofs.YtnjnomebcggccaaGreatDoor
open Go.RowKit

theorem NewTx.mono {B B2 : Nat} {y : PTx} (h : NewTx B y) (hB : B2 ≤ B) : NewTx B2 y := ⟨h.all.mono fun _ hb => Nat.le_trans hB hb, h.signs.mono fun _ hb => Nat.le_trans hB hb⟩
theorem frontB_strip15 (sh : Bool) (x : PTx) : frontB sh x.strip = frontB sh x := by
  show numB ((x.ins.map PIn.strip).length : Nat) ++ (insB sh (x.ins.map PIn.strip) ++ (numB ((x.outs.map POut.strip).length : Nat) ++ (outsB (x.outs.map POut.strip) ++ opB x.op.strip))) = _
  rw [insB_strip, outsB_strip, List.length_map, List.length_map]
  rfl
theorem txSum_alike15 {x t : PTx} (h : x.strip = t.strip) : txSum x = txSum t := by
  unfold txSum
  rw [← frontB_strip15 false x, ← frontB_strip15 false t, h]
theorem row_block15 {w : World} {g n : Nat} {l : List UInt8} {t : TypeId} {fr : Nat × Nat} (hg : w.heap[g]? = some (.cells (cellsOf l).toArray t fr)) (hn : l.length = n) (hm : n ≤ 1000000) : Row w (some ⟨g, 0, none⟩) n n l :=
  row_new hn (Nat.le_refl _) (by unfold maxLen; omega) _ t hg (fun j hj => cellsOf_get (by omega))
def takeIn (T pre : List UInt8) (a : Option Addr) : PIn := ⟨T, 0, 1, a, 32, 32, pre⟩
/-- What takes a part, unsigned. -/
def takeP (T pre : List UInt8) (ia pa oa : Option Addr) (n c : Nat) (xs : List POut) : PTx := ⟨ia, 1, 1, [takeIn T pre pa], oa, n, c, xs, noOp, none, 0, 0, []⟩
/-- The same, where it lies in no memory. -/
def takeS (T pre : List UInt8) (xs : List POut) : PTx := takeP T pre none none none xs.length 0 xs
theorem takeP_strip {T pre : List UInt8} {ia pa oa : Option Addr} {n c : Nat} {xs ys : List POut} (h : xs.map POut.strip = ys.map POut.strip) : (takeP T pre ia pa oa n c xs).strip = (takeS T pre ys).strip := by
  have hl : xs.length = ys.length := by have h9 := congrArg List.length h; simpa using h9
  show PTx.mk none 1 0 _ none xs.length 0 (xs.map POut.strip) _ none 0 0 [] = PTx.mk none 1 0 _ none ys.length 0 (ys.map POut.strip) _ none 0 0 []
  rw [h, hl]
  rfl
theorem signedP_strip {x y : PTx} {z : Int} {S : List UInt8} (h : x.strip = y.strip) : (signedP x z S).strip = (signedP y z S).strip :=
  congrArg (fun p : PTx => (⟨p.ia, p.inn, p.ic, p.ins, p.oa, p.on, p.oc, p.outs, p.op, none, 1, 0, [⟨z, S⟩]⟩ : PTx)) h
theorem build_take15 {T pre : List UInt8} (a : Option Addr) (hl : T.length = 32) (w : World) : (Instr.build 55 ([(0, (.agg (refCells T 0).toArray : Value)), (1, .int .i64 1), (2, .slice a 32 32)] : List (Nat × Value)).toArray).run Tryz.prog w = .ok (.agg (takeIn T pre a).cells.toArray) w := by
  obtain ⟨fs, hu, hm⟩ := Tryz.inFields14
  refine run_build_of hu hm Tryz.zeroIn14 ?_ w
  rw [show ([(0, (.agg (refCells T 0).toArray : Value)), (1, .int .i64 1), (2, .slice a 32 32)] : List (Nat × Value)).toArray.toList = [(0, .agg (refCells T 0).toArray), (1, .int .i64 1), (2, .slice a 32 32)] from rfl, noIn_parts]
  rw [fill_step (off := 0) (n := 33) rfl (vs := refCells T 0) rfl (refCells_len hl) (by simp [refCells_len, zero32_len]), spl_head (by rw [refCells_len hl, refCells_len zero32_len])]
  rw [fill_step (off := 33) (n := 1) rfl (vs := [.int .i64 1]) rfl rfl (by simp [refCells_len hl])]
  rw [show refCells T 0 ++ ([.int .i64 0, .slice none 0 0] : List Value) = refCells T 0 ++ (([.int .i64 0] : List Value) ++ [.slice none 0 0]) by simp, spl_at (by rw [refCells_len hl]) (by rfl)]
  rw [fill_step (off := 34) (n := 1) rfl (vs := [.slice a 32 32]) rfl rfl (by simp [refCells_len hl])]
  rw [show refCells T 0 ++ (([.int .i64 1] : List Value) ++ [.slice none 0 0]) = (refCells T 0 ++ [.int .i64 1]) ++ (([.slice none 0 0] : List Value) ++ []) by simp, spl_at (by simp [refCells_len hl]) (by rfl)]
  unfold Instr.fill
  simp [PIn.cells, refCells, takeIn]
theorem build_takeP {T pre : List UInt8} (ia pa oa : Option Addr) (n c : Nat) (xs : List POut) (w : World) : (Instr.build 35 ([(0, (.slice ia 1 1 : Value)), (1, .slice oa n c)] : List (Nat × Value)).toArray).run Tryz.prog w = .ok (.agg (takeP T pre ia pa oa n c xs).cells.toArray) w := build_tx14 ia 1 1 [takeIn T pre pa] oa n c xs w
theorem take_in15 {w : World} {T pre : List UInt8} {p gp n c : Nat} {oa : Option Addr} {xs : List POut} {ty : TypeId} {fr : Nat × Nat} (hT : T.length = 32) (hp : pre.length = 32) (hi : w.heap[p]? = some (.cells ([takeIn T pre (some ⟨gp, 0, none⟩)].flatMap inK.cells).toArray ty fr)) (hg : w.heap[gp]? = some (.cells (cellsOf pre).toArray 23 (0, 0))) (ho : SliceOf outK w oa n c xs) :
    TxIn w (takeP T pre (some ⟨p, 0, none⟩) (some ⟨gp, 0, none⟩) oa n c xs) :=
  ⟨(show SliceOf inK w (some ⟨p, 0, none⟩) 1 1 [takeIn T pre (some ⟨gp, 0, none⟩)] from slice_lits (K := inK) hi rfl (by omega) (by intro x hx; simp at hx; subst hx; exact ⟨hT, fits0_14, (show Fits 1 by constructor <;> decide), (show Row w (some ⟨gp, 0, none⟩) 32 32 pre from row_block15 hg hp (by omega))⟩)), ho, op_none14 w, SliceOf.nil _ _⟩
theorem take_few15 {T pre : List UInt8} {ia pa oa : Option Addr} {n c : Nat} {xs : List POut} (hf : FewOuts n xs) (hoa : oa = none ∨ 1 ≤ n) : FewTx (takeP T pre ia pa oa n c xs) := by
  have h1 := hf.hi
  exact ⟨by show 1 ≤ 1000; omega, by show n ≤ 1000; omega, .inr (Nat.le_refl _), hoa, fun y hy => by simp [takeP] at hy; subst hy; show 32 ≤ 100000; omega,
    fun z hz => by have h9 := hf.each z hz; exact ⟨.inr (by omega), by omega⟩, fun z hz u hu => by have h9 := (hf.each z hz).2.2 u hu; omega, by show 0 ≤ 100000; omega, rfl, rfl, rfl, rfl⟩
theorem take_front15 {w : World} {T pre : List UInt8} {ia pa oa : Option Addr} {n c : Nat} {xs : List POut} (h : TxIn w (takeP T pre ia pa oa n c xs)) (hf : FewOuts n xs) : FrontFew false (takeP T pre ia pa oa n c xs) := by
  have h1 := hf.hi
  exact frontFew false h (by show 1 ≤ 20; omega) (by show n ≤ 20; omega) (fun y hy => by simp [takeP] at hy; subst hy; show 32 ≤ 100; omega) (fun y hy => by have h9 := hf.each y hy; exact ⟨by omega, fun z hz => by have h8 := h9.2.2 z hz; omega⟩) (by show 0 ≤ 65536; omega)
end Go.Proofs.YtnjnomebcggccaaGreatDoor
