/- A transaction that is read of bytes, plainly; what is read has these bytes, and what may be is read of its own. -/
import Derived.Test.YtodbhopeknlgiaaGreatDoorTxPack
import Derived.Test.YtodbhopeknlgiaaGreatDoorWTag
import Derived.Test.YtodbhopeknlgiaaGreatDoorLock
namespace Go.Proofs.YtodbhopeknlgiaaGreatDoor
open Go.RowKit

/-- What they say, without where it lies. -/
def PIn.strip (x : PIn) : PIn := ⟨x.tx, x.place, x.way, none, x.pre.length, 0, x.pre⟩
def POut.strip (x : POut) : POut := ⟨x.m, none, x.ws.length, 0, x.ws.map PWay.strip⟩
def POp.strip (x : POp) : POp := ⟨x.kind, x.tower, x.channel, x.amount, x.root, none, x.data.length, 0, x.data⟩
def PTx.strip (x : PTx) : PTx := ⟨none, x.ins.length, 0, x.ins.map PIn.strip, none, x.outs.length, 0, x.outs.map POut.strip, x.op.strip, none, x.signs.length, 0, x.signs⟩
theorem insB_strip (sh : Bool) : ∀ xs : List PIn, insB sh (xs.map PIn.strip) = insB sh xs
  | [] => rfl
  | x :: xs => by
    rw [List.map_cons, insB, insB, insB_strip sh xs]
    rfl
theorem outsB_strip : ∀ xs : List POut, outsB (xs.map POut.strip) = outsB xs
  | [] => rfl
  | x :: xs => by
    rw [List.map_cons, outsB, outsB, outsB_strip xs]
    show outB x.m (x.ws.map PWay.strip) ++ outsB xs = _
    rw [outB_strip]
theorem txB_strip (x : PTx) : txB x.strip = txB x := by
  have e : frontB true x.strip = frontB true x := by
    show numB ((x.ins.map PIn.strip).length : Nat) ++ (insB true (x.ins.map PIn.strip) ++ (numB ((x.outs.map POut.strip).length : Nat) ++ (outsB (x.outs.map POut.strip) ++ opB x.op.strip))) = _
    rw [insB_strip, outsB_strip, List.length_map, List.length_map]
    rfl
  unfold txB
  rw [e]
  rfl
/-- The lengths are the slices' own. -/
structure Lens (x : PTx) : Prop where
  ins : x.ins.length = x.inn
  pre : ∀ y ∈ x.ins, y.pre.length = y.n ∧ y.tx.length = 32
  outs : x.outs.length = x.on
  ways : ∀ y ∈ x.outs, ∀ z ∈ y.ws, z.h.length = 32
  op : x.op.data.length = x.op.n
  root : x.op.root.length = 32
  signs : x.signs.length = x.sn
  sums : ∀ y ∈ x.signs, y.sum.length = 32
theorem TxIn.lens {w : World} {x : PTx} (h : TxIn w x) : Lens x :=
  ⟨h.ins.1, fun y hy => have h9 : InIn w y := h.ins.2.2.2.2.1 y hy; ⟨h9.pre.1, h9.tx⟩, h.outs.1, fun y hy z hz => have h9 : OutIn w y := h.outs.2.2.2.2.1 y hy; (h9.ws.2.2.2.2.1 z hz).sum, h.op.data.1, h.op.root, h.signs.1, fun y hy => have h9 : SignIn y := h.signs.2.2.2.2.1 y hy; h9.sum⟩
theorem insOk_strip : ∀ {xs pre : List PIn}, (∀ y ∈ xs, y.pre.length = y.n) → insOk (pre.map PIn.strip) (xs.map PIn.strip) = insOk pre xs
  | [], _, _ => rfl
  | x :: xs, pre, h => by
    have e1 : inOk x.strip = inOk x := by
      show (uptoB x.place 15 && (uptoB x.way 15 && decide (x.pre.length ≤ 64))) = _
      rw [h x (by simp)]
      rfl
    have e2 : ((pre.map PIn.strip).any fun a => sameRef a x.strip) = pre.any fun a => sameRef a x := by
      rw [List.any_map]
      rfl
    have e3 := insOk_strip (xs := xs) (pre := pre ++ [x]) (fun y hy => h y (by simp [hy]))
    rw [List.map_append] at e3
    rw [List.map_cons, insOk, insOk, e1, e2]
    show (_ && (_ && insOk (pre.map PIn.strip ++ [x].map PIn.strip) (xs.map PIn.strip))) = _
    rw [e3]
theorem outsOk_strip (xs : List POut) : outsOk (xs.map POut.strip) = outsOk xs := by
  unfold outsOk
  rw [List.all_map]
  congr 1
  funext y
  exact outOk_strip y.m y.ws
theorem opOk_strip {x : POp} (h : x.data.length = x.n) : opOk x.strip = opOk x := by
  have e : x.strip = { x with a := none, c := 0 } := by
    unfold POp.strip
    rw [h]
  rw [e]
  rfl
theorem txOk_strip {x : PTx} (h : Lens x) : txOk x.strip = txOk x := by
  have e1 := insOk_strip (pre := []) (fun y hy => (h.pre y hy).1)
  have e2 := outsOk_strip x.outs
  have e3 := opOk_strip h.op
  unfold txOk
  show (decide (x.ins.length ≤ 16 ∧ x.outs.length ≤ 16 ∧ x.signs.length ≤ 16) && (decide (x.ins.length ≠ 0 ∨ x.op.strip.kind ≠ 0) && (opOk x.op.strip && (insOk [] (x.ins.map PIn.strip) && (outsOk (x.outs.map POut.strip) && rises 0 (keysOf x.signs)))))) = _
  rw [show ([] : List PIn) = [].map PIn.strip from rfl, e1, e2, e3, h.ins, h.outs, h.signs]
  rfl

/-! ### An in, an op, a sign, an out -/
def inR (s : List UInt8 × Int) : PIn × (List UInt8 × Int) :=
  (⟨(sumR s).1, (upR (sumR s).2 15).1, (upR (upR (sumR s).2 15).2 15).1, none, (textR (upR (upR (sumR s).2 15).2 15).2 64).1.length, 0, (textR (upR (upR (sumR s).2 15).2 15).2 64).1⟩, (textR (upR (upR (sumR s).2 15).2 15).2 64).2)
theorem inR_parts (s : List UInt8 × Int) : ∃ (s1 s2 s3 s4 : List UInt8 × Int) (h : List UInt8) (a b : Int) (p : List UInt8), sumR s = (h, s1) ∧ upR s1 15 = (a, s2) ∧ upR s2 15 = (b, s3) ∧ textR s3 64 = (p, s4) ∧ inR s = (⟨h, a, b, none, p.length, 0, p⟩, s4) :=
  ⟨_, _, _, _, _, _, _, _, rfl, rfl, rfl, rfl, rfl⟩
theorem inR_ok {s : List UInt8 × Int} (h : (inR s).2.2 = 0) : s.2 = 0 ∧ s.1 = inB true (inR s).1 ++ (inR s).2.1 := by
  obtain ⟨s1, s2, s3, s4, g, a, b, p, e1, e2, e3, e4, e⟩ := inR_parts s
  rw [e] at h ⊢
  obtain ⟨h3, g4⟩ := textR_ok (s := s3) (m := 64) (by omega) (by rw [e4]; exact h)
  obtain ⟨h2, g3⟩ := upR_ok (s := s2) (m := 15) (by rw [e3]; exact h3)
  obtain ⟨h1, g2⟩ := upR_ok (s := s1) (m := 15) (by rw [e2]; exact h2)
  obtain ⟨h0, g1⟩ := sumR_ok (s := s) (by rw [e1]; exact h1)
  rw [e4] at g4
  rw [e3] at g3
  rw [e2] at g2
  rw [e1] at g1
  dsimp only at g1 g2 g3 g4
  refine ⟨h0, ?_⟩
  show s.1 = (g ++ (numB a ++ (numB b ++ (numB (p.length : Nat) ++ p)))) ++ s4.1
  rw [g1, g2, g3, g4]
  simp
theorem inR_put {x : PIn} (t : List UInt8) (ht : x.tx.length = 32) (hn : x.pre.length = x.n) (h : inOk x = true) : inR (inB true x ++ t, 0) = (x.strip, (t, 0)) := by
  unfold inOk uptoB at h
  simp only [Bool.and_eq_true, decide_eq_true_eq] at h
  obtain ⟨s1, s2, s3, s4, g, a, b, p, e1, e2, e3, e4, e⟩ := inR_parts (inB true x ++ t, 0)
  have eb : inB true x ++ t = x.tx ++ (numB x.place ++ (numB x.way ++ (numB (x.pre.length : Nat) ++ (x.pre ++ t)))) := by
    unfold inB
    simp
  rw [eb, sumR_put _ ht] at e1
  cases e1
  rw [upR_put _ (by omega) (by omega) (by omega)] at e2
  cases e2
  rw [upR_put _ (by omega) (by omega) (by omega)] at e3
  cases e3
  rw [textR_put _ (by omega) (by omega)] at e4
  cases e4
  exact e
theorem inR_le (s : List UInt8 × Int) : (inR s).2.1.length ≤ s.1.length := Nat.le_trans textR_le (Nat.le_trans (upR_le _ _) (Nat.le_trans (upR_le _ _) (sumR_le _)))
def signR (s : List UInt8 × Int) : PSign × (List UInt8 × Int) := (⟨(upR s 255).1, (sumR (upR s 255).2).1⟩, (sumR (upR s 255).2).2)
theorem signR_ok {s : List UInt8 × Int} (h : (signR s).2.2 = 0) : s.2 = 0 ∧ s.1 = signB (signR s).1 ++ (signR s).2.1 := by
  obtain ⟨h1, g2⟩ := sumR_ok (s := (upR s 255).2) h
  obtain ⟨h0, g1⟩ := upR_ok (s := s) (m := 255) h1
  refine ⟨h0, ?_⟩
  show s.1 = (numB (upR s 255).1 ++ (sumR (upR s 255).2).1) ++ (sumR (upR s 255).2).2.1
  rw [List.append_assoc, ← g2]
  exact g1
theorem signR_put {x : PSign} (t : List UInt8) (hs : x.sum.length = 32) (h0 : 0 ≤ x.key) (h1 : x.key ≤ 255) : signR (signB x ++ t, 0) = (x, (t, 0)) := by
  unfold signR signB
  rw [List.append_assoc, upR_put _ h0 h1 (by omega)]
  dsimp only
  rw [sumR_put _ hs]
theorem signR_le (s : List UInt8 × Int) : (signR s).2.1.length ≤ s.1.length := Nat.le_trans (sumR_le _) (upR_le _ _)
def opR (s : List UInt8 × Int) : POp × (List UInt8 × Int) :=
  let a := upR s 7
  let b := upR a.2 15
  let c := upR b.2 1048576
  let d := upR c.2 1125899906842624
  let e := sumR d.2
  let f := textR e.2 65536
  (⟨a.1, b.1, c.1, d.1, e.1, none, f.1.length, 0, f.1⟩, f.2)
theorem opR_parts (s : List UInt8 × Int) : ∃ (s1 s2 s3 s4 s5 s6 : List UInt8 × Int) (a b c d : Int) (g p : List UInt8), upR s 7 = (a, s1) ∧ upR s1 15 = (b, s2) ∧ upR s2 1048576 = (c, s3) ∧ upR s3 1125899906842624 = (d, s4) ∧ sumR s4 = (g, s5) ∧ textR s5 65536 = (p, s6) ∧ opR s = (⟨a, b, c, d, g, none, p.length, 0, p⟩, s6) :=
  ⟨_, _, _, _, _, _, _, _, _, _, _, _, rfl, rfl, rfl, rfl, rfl, rfl, rfl⟩
theorem opR_ok {s : List UInt8 × Int} (h : (opR s).2.2 = 0) : s.2 = 0 ∧ s.1 = opB (opR s).1 ++ (opR s).2.1 := by
  obtain ⟨s1, s2, s3, s4, s5, s6, a, b, c, d, g, p, e1, e2, e3, e4, e5, e6, e⟩ := opR_parts s
  rw [e] at h ⊢
  obtain ⟨h5, g6⟩ := textR_ok (s := s5) (m := 65536) (by omega) (by rw [e6]; exact h)
  obtain ⟨h4, g5⟩ := sumR_ok (s := s4) (by rw [e5]; exact h5)
  obtain ⟨h3, g4⟩ := upR_ok (s := s3) (m := 1125899906842624) (by rw [e4]; exact h4)
  obtain ⟨h2, g3⟩ := upR_ok (s := s2) (m := 1048576) (by rw [e3]; exact h3)
  obtain ⟨h1, g2⟩ := upR_ok (s := s1) (m := 15) (by rw [e2]; exact h2)
  obtain ⟨h0, g1⟩ := upR_ok (s := s) (m := 7) (by rw [e1]; exact h1)
  rw [e6] at g6
  rw [e5] at g5
  rw [e4] at g4
  rw [e3] at g3
  rw [e2] at g2
  rw [e1] at g1
  dsimp only at g1 g2 g3 g4 g5 g6
  refine ⟨h0, ?_⟩
  show s.1 = (numB a ++ (numB b ++ (numB c ++ (numB d ++ (g ++ (numB (p.length : Nat) ++ p)))))) ++ s6.1
  rw [g1, g2, g3, g4, g5, g6]
  simp
theorem opOk_range {x : POp} (h : opOk x = true) : 0 ≤ x.kind ∧ x.kind ≤ 7 ∧ 0 ≤ x.tower ∧ x.tower ≤ 15 ∧ 0 ≤ x.channel ∧ x.channel ≤ 1048576 ∧ 0 ≤ x.amount ∧ x.amount ≤ 1125899906842624 ∧ x.n ≤ 65536 := by
  by_cases hk : x.kind = 0
  · rw [opOk_none hk] at h
    simp only [Bool.and_eq_true, decide_eq_true_eq] at h
    omega
  · rw [opOk_upto hk] at h
    unfold uptoB at h
    simp only [Bool.and_eq_true, decide_eq_true_eq] at h
    omega
theorem opR_put {x : POp} (t : List UInt8) (hr : x.root.length = 32) (hn : x.data.length = x.n) (h : opOk x = true) : opR (opB x ++ t, 0) = (x.strip, (t, 0)) := by
  obtain ⟨k1, k2, k3, k4, k5, k6, k7, k8, k9⟩ := opOk_range h
  obtain ⟨s1, s2, s3, s4, s5, s6, a, b, c, d, g, p, e1, e2, e3, e4, e5, e6, e⟩ := opR_parts (opB x ++ t, 0)
  have eb : opB x ++ t = numB x.kind ++ (numB x.tower ++ (numB x.channel ++ (numB x.amount ++ (x.root ++ (numB (x.data.length : Nat) ++ (x.data ++ t)))))) := by
    unfold opB
    simp
  rw [eb, upR_put _ k1 k2 (by omega)] at e1
  cases e1
  rw [upR_put _ k3 k4 (by omega)] at e2
  cases e2
  rw [upR_put _ k5 k6 (by omega)] at e3
  cases e3
  rw [upR_put _ k7 k8 (by omega)] at e4
  cases e4
  rw [sumR_put _ hr] at e5
  cases e5
  rw [textR_put _ (by omega) (by omega)] at e6
  cases e6
  exact e
theorem opR_le (s : List UInt8 × Int) : (opR s).2.1.length ≤ s.1.length := Nat.le_trans textR_le (Nat.le_trans (sumR_le _) (Nat.le_trans (upR_le _ _) (Nat.le_trans (upR_le _ _) (Nat.le_trans (upR_le _ _) (upR_le _ _)))))
def pOutR (s : List UInt8 × Int) : POut × (List UInt8 × Int) := (⟨(outR s).1.1, none, (outR s).1.2.length, 0, (outR s).1.2⟩, (outR s).2)
theorem pOutR_ok {s : List UInt8 × Int} (h : (pOutR s).2.2 = 0) : s.2 = 0 ∧ s.1 = outB (pOutR s).1.m (pOutR s).1.ws ++ (pOutR s).2.1 := by
  obtain ⟨_, h1, h2⟩ := outR_ok h
  exact ⟨h1, h2⟩
theorem pOutR_put {x : POut} (t : List UInt8) (h : outOk x.m x.ws = true) (hs : ∀ z ∈ x.ws, z.h.length = 32) : pOutR (outB x.m x.ws ++ t, 0) = (x.strip, (t, 0)) := by
  unfold pOutR
  rw [outR_put t h hs]
  simp [POut.strip]

/-! ### Lists -/
def listR {α : Type} (f : List UInt8 × Int → α × (List UInt8 × Int)) : Nat → List UInt8 × Int → List α × (List UInt8 × Int)
  | 0, s => ([], s)
  | k + 1, s => ((listR f k s).1 ++ [(f (listR f k s).2).1], (f (listR f k s).2).2)
theorem listR_len {α : Type} (f : List UInt8 × Int → α × (List UInt8 × Int)) (s : List UInt8 × Int) : ∀ k, (listR f k s).1.length = k
  | 0 => rfl
  | k + 1 => by simp [listR, listR_len f s k]
theorem listR_le {α : Type} {f : List UInt8 × Int → α × (List UInt8 × Int)} (hf : ∀ s, (f s).2.1.length ≤ s.1.length) (s : List UInt8 × Int) : ∀ k, (listR f k s).2.1.length ≤ s.1.length
  | 0 => Nat.le_refl _
  | k + 1 => Nat.le_trans (hf _) (listR_le hf s k)
theorem listR_ok {α : Type} {f : List UInt8 × Int → α × (List UInt8 × Int)} {b : α → List UInt8} {bs : List α → List UInt8} (h0 : bs [] = []) (h1 : ∀ x, bs [x] = b x) (ha : ∀ u v, bs (u ++ v) = bs u ++ bs v) (hf : ∀ {s}, (f s).2.2 = 0 → s.2 = 0 ∧ s.1 = b (f s).1 ++ (f s).2.1) {s : List UInt8 × Int} :
    ∀ {k : Nat}, (listR f k s).2.2 = 0 → s.2 = 0 ∧ s.1 = bs (listR f k s).1 ++ (listR f k s).2.1
  | 0, h => ⟨h, by simp [listR, h0]⟩
  | k + 1, h => by
    obtain ⟨h2, h3⟩ := hf h
    obtain ⟨h4, h5⟩ := listR_ok h0 h1 ha hf (k := k) h2
    refine ⟨h4, ?_⟩
    show s.1 = bs ((listR f k s).1 ++ [(f (listR f k s).2).1]) ++ (f (listR f k s).2).2.1
    rw [ha, h1, List.append_assoc, ← h3]
    exact h5
theorem listR_put {α : Type} {f : List UInt8 × Int → α × (List UInt8 × Int)} {b : α → List UInt8} {bs : List α → List UInt8} {g : α → α} (d : α) (hc : ∀ x xs, bs (x :: xs) = b x ++ bs xs) (l : List α) (hf : ∀ x ∈ l, ∀ t, f (b x ++ t, 0) = (g x, (t, 0))) (t : List UInt8) :
    ∀ k, k ≤ l.length → listR f k (bs l ++ t, 0) = ((l.take k).map g, (bs (l.drop k) ++ t, 0))
  | 0, _ => by simp [listR]
  | k + 1, hk => by
    have hm : l.getD k d ∈ l := by
      rw [List.getD_eq_getElem?_getD, List.getElem?_eq_getElem (by omega)]
      exact List.getElem_mem (by omega)
    rw [listR, listR_put d hc l hf t k (by omega), drop_getD (d := d) (by omega), hc, List.append_assoc, hf _ hm, take_getD (d := d) (by omega)]
    simp

/-! ### A transaction -/
def txR (s : List UInt8 × Int) : PTx × (List UInt8 × Int) :=
  let a := upR s 16
  let b := listR inR a.1.toNat a.2
  let c := upR b.2 16
  let d := listR pOutR c.1.toNat c.2
  let e := opR d.2
  let f := upR e.2 16
  let g := listR signR f.1.toNat f.2
  (⟨none, b.1.length, 0, b.1, none, d.1.length, 0, d.1, e.1, none, g.1.length, 0, g.1⟩, g.2)
theorem txR_parts (s : List UInt8 × Int) : ∃ (s1 s2 s3 s4 s5 s6 s7 : List UInt8 × Int) (n1 n2 n3 : Nat) (is : List PIn) (os : List POut) (op : POp) (ss : List PSign), upR s 16 = ((n1 : Int), s1) ∧ listR inR n1 s1 = (is, s2) ∧ upR s2 16 = ((n2 : Int), s3) ∧ listR pOutR n2 s3 = (os, s4) ∧ opR s4 = (op, s5) ∧ upR s5 16 = ((n3 : Int), s6) ∧ listR signR n3 s6 = (ss, s7) ∧
    txR s = (⟨none, is.length, 0, is, none, os.length, 0, os, op, none, ss.length, 0, ss⟩, s7) ∧ n1 ≤ 16 ∧ n2 ≤ 16 ∧ n3 ≤ 16 := by
  have e : ∀ s : List UInt8 × Int, ∃ (n : Nat) (s1 : List UInt8 × Int), upR s 16 = ((n : Int), s1) ∧ n ≤ 16 := fun s => by
    have hr := upR_range s (m := 16) (by omega)
    exact ⟨(upR s 16).1.toNat, (upR s 16).2, by rw [Int.toNat_of_nonneg hr.1], by omega⟩
  obtain ⟨n1, s1, e1, l1⟩ := e s
  obtain ⟨is, s2, e2⟩ : ∃ l s', listR inR n1 s1 = (l, s') := ⟨_, _, rfl⟩
  obtain ⟨n2, s3, e3, l2⟩ := e s2
  obtain ⟨os, s4, e4⟩ : ∃ l s', listR pOutR n2 s3 = (l, s') := ⟨_, _, rfl⟩
  obtain ⟨op, s5, e5⟩ : ∃ l s', opR s4 = (l, s') := ⟨_, _, rfl⟩
  obtain ⟨n3, s6, e6, l3⟩ := e s5
  obtain ⟨ss, s7, e7⟩ : ∃ l s', listR signR n3 s6 = (l, s') := ⟨_, _, rfl⟩
  refine ⟨s1, s2, s3, s4, s5, s6, s7, n1, n2, n3, is, os, op, ss, e1, e2, e3, e4, e5, e6, e7, ?_, l1, l2, l3⟩
  unfold txR
  rw [e1]
  dsimp only
  rw [Int.toNat_natCast, e2]
  dsimp only
  rw [e3]
  dsimp only
  rw [Int.toNat_natCast, e4]
  dsimp only
  rw [e5]
  dsimp only
  rw [e6]
  dsimp only
  rw [Int.toNat_natCast, e7]
theorem txR_ok {s : List UInt8 × Int} (h : (txR s).2.2 = 0) : s.2 = 0 ∧ s.1 = txB (txR s).1 ++ (txR s).2.1 := by
  obtain ⟨s1, s2, s3, s4, s5, s6, s7, n1, n2, n3, is, os, op, ss, e1, e2, e3, e4, e5, e6, e7, e, _⟩ := txR_parts s
  rw [e] at h ⊢
  obtain ⟨h6, g7⟩ := listR_ok (f := signR) (b := signB) (bs := signsB) rfl (fun x => by simp [signsB]) signsB_append signR_ok (s := s6) (k := n3) (by rw [e7]; exact h)
  obtain ⟨h5, g6⟩ := upR_ok (s := s5) (m := 16) (by rw [e6]; exact h6)
  obtain ⟨h4, g5⟩ := opR_ok (s := s4) (by rw [e5]; exact h5)
  obtain ⟨h3, g4⟩ := listR_ok (f := pOutR) (b := fun x => outB x.m x.ws) (bs := outsB) rfl (fun x => by simp [outsB]) outsB_append pOutR_ok (s := s3) (k := n2) (by rw [e4]; exact h4)
  obtain ⟨h2, g3⟩ := upR_ok (s := s2) (m := 16) (by rw [e3]; exact h3)
  obtain ⟨h1, g2⟩ := listR_ok (f := inR) (b := inB true) (bs := insB true) rfl (fun x => by simp [insB]) (insB_append true) inR_ok (s := s1) (k := n1) (by rw [e2]; exact h2)
  obtain ⟨h0, g1⟩ := upR_ok (s := s) (m := 16) (by rw [e1]; exact h1)
  have l1 := listR_len inR s1 n1
  have l2 := listR_len pOutR s3 n2
  have l3 := listR_len signR s6 n3
  rw [e7] at g7 l3
  rw [e6] at g6
  rw [e5] at g5
  rw [e4] at g4 l2
  rw [e3] at g3
  rw [e2] at g2 l1
  rw [e1] at g1
  dsimp only at g1 g2 g3 g4 g5 g6 g7 l1 l2 l3
  refine ⟨h0, ?_⟩
  show s.1 = ((numB (is.length : Nat) ++ (insB true is ++ (numB (os.length : Nat) ++ (outsB os ++ opB op)))) ++ (numB (ss.length : Nat) ++ signsB ss)) ++ s7.1
  rw [l1, l2, l3, g1, g2, g3, g4, g5, g6, g7]
  simp
set_option maxHeartbeats 1600000 in
theorem txR_put {x : PTx} (hl : Lens x) (h : txOk x = true) : txR (txB x, 0) = (x.strip, ([], 0)) := by
  obtain ⟨h1, h2, h3, _, h5, h6, h7, h8⟩ := txOk_parts h
  obtain ⟨s1, s2, s3, s4, s5, s6, s7, n1, n2, n3, is, os, op, ss, e1, e2, e3, e4, e5, e6, e7, e, _⟩ := txR_parts (txB x, 0)
  have eb : txB x = numB (x.ins.length : Nat) ++ (insB true x.ins ++ (numB (x.outs.length : Nat) ++ (outsB x.outs ++ (opB x.op ++ (numB (x.signs.length : Nat) ++ (signsB x.signs ++ [])))))) := by
    unfold txB frontB
    simp
  have l1 := hl.ins
  have l2 := hl.outs
  have l3 := hl.signs
  have m1 := fun y hy => insOk_each h6 y hy
  have m2 : ∀ y ∈ x.outs, outOk y.m y.ws = true := by
    unfold outsOk at h7
    rw [List.all_eq_true] at h7
    exact h7
  have m3 : ∀ y ∈ x.signs, 0 ≤ y.key ∧ y.key ≤ 255 := fun y hy => rises_range (Int.le_refl _) h8 y.key (List.mem_map_of_mem hy)
  rw [eb, upR_put _ (by omega) (by omega) (by omega)] at e1
  obtain ⟨q1, rfl⟩ := Prod.mk.inj e1
  obtain rfl : x.ins.length = n1 := by omega
  rw [listR_put (b := inB true) (g := PIn.strip) noIn (fun _ _ => rfl) x.ins (fun y hy t => inR_put t (hl.pre y hy).2 (hl.pre y hy).1 (m1 y hy)) _ _ (Nat.le_refl _), List.take_of_length_le (Nat.le_refl _), List.drop_of_length_le (Nat.le_refl _)] at e2
  obtain ⟨rfl, rfl⟩ := Prod.mk.inj e2
  rw [show insB true ([] : List PIn) = [] from rfl, List.nil_append, upR_put _ (by omega) (by omega) (by omega)] at e3
  obtain ⟨q2, rfl⟩ := Prod.mk.inj e3
  obtain rfl : x.outs.length = n2 := by omega
  rw [listR_put (b := fun x => outB x.m x.ws) (g := POut.strip) noOut (fun _ _ => rfl) x.outs (fun y hy t => pOutR_put t (m2 y hy) (hl.ways y hy)) _ _ (Nat.le_refl _), List.take_of_length_le (Nat.le_refl _), List.drop_of_length_le (Nat.le_refl _)] at e4
  obtain ⟨rfl, rfl⟩ := Prod.mk.inj e4
  rw [show outsB ([] : List POut) = [] from rfl, List.nil_append, opR_put _ hl.root hl.op h5] at e5
  obtain ⟨rfl, rfl⟩ := Prod.mk.inj e5
  rw [upR_put _ (by omega) (by omega) (by omega)] at e6
  obtain ⟨q3, rfl⟩ := Prod.mk.inj e6
  obtain rfl : x.signs.length = n3 := by omega
  rw [listR_put (b := signB) (g := id) noSign (fun _ _ => rfl) x.signs (fun y hy t => signR_put t (hl.sums y hy) (m3 y hy).1 (m3 y hy).2) _ _ (Nat.le_refl _), List.take_of_length_le (Nat.le_refl _), List.drop_of_length_le (Nat.le_refl _)] at e7
  obtain ⟨rfl, rfl⟩ := Prod.mk.inj e7
  rw [e]
  simp [PTx.strip, signsB]
end Go.Proofs.YtodbhopeknlgiaaGreatDoor
