/- Words for signatures under way: structs of four cells; sums that grow in a region; eyes beside them. No function of the program is named. What any bytes are read as, as a signature: plainly. No function of the program is named. What many.read comes to, of any bytes. What many.Verify comes to, of any text and any bytes. -/
import Derived.Test.YtcmdpmialehjgaaGreatDoorMerkle
import Derived.Test.YtcmdpmialehjgaaGreatDoorMemory
import Derived.Test.YtcmdpmialehjgaaGreatDoorWire
import Derived.Test.YtcmdpmialehjgaaGreatDoorTxGets
import Derived.Test.YtcmdpmialehjgaaGreatDoorLamport
import Derived.Test.YtcmdpmialehjgaaGreatDoorSteps
namespace Go.Proofs.YtcmdpmialehjgaaGreatDoor
open Go.RowKit

theorem noBytes_four {w : World} {b : Nat} {x0 x1 x2 x3 : Value} {t : TypeId} {fr : Nat × Nat} (h : w.heap[b]? = some (.cells #[x0, x1, x2, x3] t fr)) (h0 : ∀ n, x0 ≠ .int .u8 n) (h1 : ∀ n, x1 ≠ .int .u8 n) (h2 : ∀ n, x2 ≠ .int .u8 n) (h3 : ∀ n, x3 ≠ .int .u8 n) : NoBytes w b := by
  intro off n hc
  rw [cell_of_row _ _ _ _ _ _ h] at hc
  match off, hc with
  | 0, hc => exact h0 n (Option.some.inj hc)
  | 1, hc => exact h1 n (Option.some.inj hc)
  | 2, hc => exact h2 n (Option.some.inj hc)
  | 3, hc => exact h3 n (Option.some.inj hc)
  | k + 4, hc => simp at hc
theorem four_all {x0 x1 x2 x3 : Value} (h0 : x0.oneCell' = true) (h1 : x1.oneCell' = true) (h2 : x2.oneCell' = true) (h3 : x3.oneCell' = true) : (#[x0, x1, x2, x3] : Array Value).all (·.oneCell') = true :=
  all_oneCell_toArray (cs := [x0, x1, x2, x3]) (fun v hv => by simp at hv; rcases hv with rfl | rfl | rfl | rfl <;> assumption)
theorem step_build1_gen {ops : Array Oper} {o : Oper} {tmps : Array Value} {ds : List Deferred} {w : World} {K : Act → World → Prop} {Q : Exit → Act → World → Prop} {E : Prop} {d : Nat} {s : List UInt8} (hd : o.dst = some d) (x : Operand) (hw : Region.wanted o (yielded ops tmps) = true)
    (ho : o.op = .buildSlice 114 1 #[(0, x)]) (hx : (Act.eval { tmps := tmps, defers := ds } x) = .agg (cellsOf s).toArray) (hs : s.length = 32)
    (h : ∀ g y, w.heap.size ≤ g → Sums y (some ⟨g, 0, none⟩) 1 1 [s] → Below w.heap.size w y → K { tmps := tmps.setIfInBounds d (.slice (some ⟨g, 0, none⟩) 1 1), defers := ds } y) :
    if Region.wanted o (yielded ops tmps) = true then Oper.wp Tryz.prog o { tmps := tmps, defers := ds } w K Q else E := by
  have hl := own_lit (w := w) (B := 0) [s] (by simp [hs]) (Nat.zero_le _) 1 rfl (by omega)
  rw [seqCells_single] at hl
  refine step_build1 x hw ho hx hs ?_
  show K (Act.put _ o.dst _) _
  rw [hd]
  exact h _ _ (Nat.le_refl _) hl.sums ((Below.refl _ _).alloc (Nat.le_refl _) _)
theorem step_append_gen {ops : Array Oper} {o : Oper} {tmps : Array Value} {ds : List Deferred} {w : World} {K : Act → World → Prop} {Q : Exit → Act → World → Prop} {E : Prop} {d : Nat} (hd : o.dst = some d) (hw : Region.wanted o (yielded ops tmps) = true) (x y : Operand)
    (ho : o.op = .call { callee := .builtin .append, args := #[x, y], argTypes := #[114, 114] }) (hty : o.type = 114) (B : Nat) (v : Value) (ls : List (List UInt8)) (hx : (Act.eval { tmps := tmps, defers := ds } x) = v) (h : OwnS w B v ls) (ad : Option Addr) (m c : Nat) (q : List (List UInt8)) (hy : (Act.eval { tmps := tmps, defers := ds } y) = .slice ad m c) (hq : Sums w ad m c q) (hb : ls.length + m ≤ 1000000) (hbase : B ≤ w.heap.size)
    (hk : ∀ u w', OwnS w' B u (ls ++ q) → w.grownBy w' v.ownBlock → K { tmps := tmps.setIfInBounds d u, defers := ds } w') :
    if Region.wanted o (yielded ops tmps) = true then Oper.wp Tryz.prog o { tmps := tmps, defers := ds } w K Q else E := by
  refine step_append_sums hw x y ho hty B v ls ls.length rfl hx h ad m c q hy hq hb hbase (fun a' c' w' h1 h2 => ?_)
  show K (Act.put _ o.dst _) _
  rw [hd]
  exact hk _ _ h1 h2
theorem OwnS.own_type {w : World} {B k : Nat} {v : Value} {ls : List (List UInt8)} (h : OwnS w B v ls) (hk : v.ownBlock = some k) : ∃ cur : Array Value, w.heap[k]? = some (.cells cur 23 (0, 0)) := by
  rcases h.1.2 with ⟨rfl, _⟩ | ⟨g, cap, cur, rfl, _, hh, _⟩
  · cases hk
  · cases hk
    exact ⟨cur, hh⟩
theorem OwnS.apart {w : World} {B b : Nat} {v : Value} {ls : List (List UInt8)} {cs : Array Value} {t : TypeId} {fr : Nat × Nat} (h : OwnS w B v ls) (hb : w.heap[b]? = some (.cells cs t fr)) (ht : t ≠ 23) : v.ownBlock ≠ some b := fun e => by
  obtain ⟨cur, hc⟩ := h.own_type e
  rw [hc] at hb
  simp at hb
  exact ht hb.2.1.symm
theorem OwnS.one {w : World} {B : Nat} {v : Value} {ls : List (List UInt8)} (h : OwnS w B v ls) : v.oneCell' = true := by
  obtain ⟨a, c, rfl, _⟩ := h.shape
  rfl
theorem OwnS.but {w w' : World} {B p : Nat} {v : Value} {ls : List (List UInt8)} (h : OwnS w B v ls) (hb : But w.heap.size p w w') (hp : v.ownBlock ≠ some p) : OwnS w' B v ls :=
  ⟨World.ownsRow.kept h.1 (row := some p) ⟨hb.os, hb.tape, hb.output, hb.size, fun k hk hne => hb.block k hk (fun e => hne (by rw [e]))⟩ (.inr hp), h.2⟩
theorem eye_ne {W : World} {yb p : Nat} {rest : List UInt8} {e : Int} {cs : Array Value} {t : TypeId} {fr : Nat × Nat} (h : EyeAt W yb rest e) (hp : W.heap[p]? = some (.cells cs t fr)) (ht : t ≠ 95) : yb ≠ p := fun e => by
  obtain ⟨a, m, c, h1, _⟩ := h
  subst e
  rw [h1] at hp
  simp at hp
  exact ht hp.2.1.symm
end Go.Proofs.YtcmdpmialehjgaaGreatDoor
namespace Go.Proofs.YtcmdpmialehjgaaGreatDoor
open Go.RowKit

/-- So many sums are read, one behind the other. -/
def sumsAt (s : List UInt8 × Int) : Nat → List (List UInt8) × (List UInt8 × Int)
  | 0 => ([], s)
  | j + 1 => ((sumsAt s j).1 ++ [(sumR (sumsAt s j).2).1], (sumR (sumsAt s j).2).2)
theorem sumsAt_len (s : List UInt8 × Int) : ∀ j, (sumsAt s j).1.length = j
  | 0 => rfl
  | j + 1 => by
    show ((sumsAt s j).1 ++ [_]).length = j + 1
    rw [List.length_append, sumsAt_len s j]
    rfl
theorem sumsAt_le (s : List UInt8 × Int) : ∀ j, (sumsAt s j).2.1.length ≤ s.1.length
  | 0 => Nat.le_refl _
  | j + 1 => Nat.le_trans (sumR_le _) (sumsAt_le s j)
def sigA (b : List UInt8) : Int × (List UInt8 × Int) := upR (b, 0) 64
def sigN (b : List UInt8) : Int × (List UInt8 × Int) := upR (sigA b).2 64
def sigK (b : List UInt8) : Int × (List UInt8 × Int) := upR (sigN b).2 8
def sigP (b : List UInt8) : List (List UInt8) × (List UInt8 × Int) := sumsAt (sigK b).2 (sigK b).1.toNat
def sigT (b : List UInt8) : List UInt8 × (List UInt8 × Int) := textR (sigP b).2 4096
def sigE (b : List UInt8) : Int := doneE (sigT b).2
theorem sig_ranges (b : List UInt8) : (0 ≤ (sigA b).1 ∧ (sigA b).1 ≤ 64) ∧ (0 ≤ (sigN b).1 ∧ (sigN b).1 ≤ 64) ∧ (0 ≤ (sigK b).1 ∧ (sigK b).1 ≤ 8) :=
  ⟨upR_range (b, 0) (by omega), upR_range (sigA b).2 (by omega), upR_range (sigN b).2 (by omega)⟩
theorem sig_les (b : List UInt8) : (sigA b).2.1.length ≤ b.length ∧ (sigN b).2.1.length ≤ b.length ∧ (sigK b).2.1.length ≤ b.length := by
  have l1 : (sigA b).2.1.length ≤ b.length := upR_le (b, 0) 64
  have l2 : (sigN b).2.1.length ≤ (sigA b).2.1.length := upR_le (sigA b).2 64
  have l3 : (sigK b).2.1.length ≤ (sigN b).2.1.length := upR_le (sigN b).2 8
  omega
end Go.Proofs.YtcmdpmialehjgaaGreatDoor
namespace Go.Proofs.YtcmdpmialehjgaaGreatDoor
open Go.RowKit

/-- A signature under way: so many sums of its path are read. -/
structure SRd (w0 : World) (yb p i n : Nat) (v : Value) (ls : List (List UInt8)) (st : List UInt8 × Int) (W : World) : Prop where
  eye : EyeAt W yb st.1 st.2
  sig : W.heap[p]? = some (.cells #[.int .i64 (i : Int), .int .i64 (n : Int), v, .slice none 0 0] 116 (0, 0))
  own : OwnS W w0.heap.size v ls
  below : Below w0.heap.size w0 W
  newY : w0.heap.size ≤ yb
  newP : w0.heap.size ≤ p
theorem SRd.more {w0 W W' : World} {yb p i n : Nat} {v : Value} {ls : List (List UInt8)} {st : List UInt8 × Int} (h : SRd w0 yb p i n v ls st W) (hb : Below W.heap.size W W') : SRd w0 yb p i n v ls st W' :=
  ⟨h.eye.below hb, (hb.block _ (lt_of_block h.sig)).trans h.sig, h.own.below hb, h.below.trans (hb.mono h.below.size), h.newY, h.newP⟩
theorem SRd.drew {w0 W : World} {yb p i n : Nat} {v : Value} {ls : List (List UInt8)} {st : List UInt8 × Int} (h : SRd w0 yb p i n v ls st W) : SRd w0 yb p i n v ls st W.drew := h.more (below_drew (Below.refl _ _))
theorem SRd.eyed {w0 W W' : World} {yb p i n : Nat} {v : Value} {ls : List (List UInt8)} {st st' : List UInt8 × Int} (h : SRd w0 yb p i n v ls st W) (he : EyeAt W' yb st'.1 st'.2) (hb : But W.heap.size yb W W') : SRd w0 yb p i n v ls st' W' := by
  refine ⟨he, hb.heap h.sig (lt_of_block h.sig) (fun e => eye_ne h.eye h.sig (by decide) e.symm), h.own.but hb ?_, h.below.trans ((hb.mono h.below.size).below h.newY), h.newY, h.newP⟩
  obtain ⟨a, m, c, h1, _⟩ := h.eye
  exact h.own.apart h1 (by decide)
/-- A sum more is joined, and laid. -/
theorem SRd.grown {w0 W W' : World} {yb p i n : Nat} {u v : Value} {ls ls' : List (List UInt8)} {st : List UInt8 × Int} (h : SRd w0 yb p i n v ls st W) (ho : OwnS W' w0.heap.size u ls') (hg : W.grownBy W' v.ownBlock) :
    Below w0.heap.size w0 W' ∧ W'.cell? ⟨p, 2, none⟩ = some v ∧ W'.frozen? ⟨p, 2, none⟩ = false ∧ SRd w0 yb p i n u ls' st (W'.setCell ⟨p, 2, none⟩ u) := by
  have hsig : W'.heap[p]? = some (.cells #[.int .i64 (i : Int), .int .i64 (n : Int), v, .slice none 0 0] 116 (0, 0)) := (hg.block p (lt_of_block h.sig) (fun e => h.own.apart h.sig (by decide) e.symm)).trans h.sig
  have hbl : Below w0.heap.size w0 W' := h.own.grows hg h.below.size |> fun hb => h.below.trans ⟨hb.os, hb.tape, hb.output, hb.size, hb.block⟩
  have hbp : But W'.heap.size p W' (W'.setCell ⟨p, 2, none⟩ u) := (But.refl _ p _).setCell _ (.inl rfl) _
  have heye : EyeAt W' yb st.1 st.2 := by
    cases e : v.ownBlock with
    | none => exact h.eye.below ⟨hg.os, hg.tape, hg.output, hg.size, fun k hk => hg.block k hk (by rw [e]; simp)⟩
    | some q =>
      obtain ⟨cur, hc⟩ := h.own.own_type e
      exact h.eye.typed (p := q) ⟨hg.os, hg.tape, hg.output, hg.size, fun k hk hne => hg.block k hk (by rw [e]; simpa using hne)⟩ hc (by decide) (eye_ne h.eye hc (by decide))
  refine ⟨hbl, by rw [cell_of_row _ _ _ _ _ _ hsig]; rfl, frozen_of_row _ _ _ _ _ hsig, ⟨heye.typed hbp hsig (by decide) (eye_ne heye hsig (by decide)), ?_, ho.but hbp (ho.apart hsig (by decide)), hbl.trans ((hbp.mono hbl.size).below h.newP), h.newY, h.newP⟩⟩
  rw [heap_setCell_same _ _ _ _ _ _ hsig]
  rfl
theorem SRd.set0 {w0 W : World} {yb p i n : Nat} {v : Value} {ls : List (List UInt8)} {st : List UInt8 × Int} (j : Nat) (h : SRd w0 yb p i n v ls st W) : SRd w0 yb p j n v ls st (W.setCell ⟨p, 0, none⟩ (.int .i64 (j : Int))) := by
  have hbp : But W.heap.size p W (W.setCell ⟨p, 0, none⟩ (.int .i64 (j : Int))) := (But.refl _ p _).setCell _ (.inl rfl) _
  refine ⟨h.eye.typed hbp h.sig (by decide) (eye_ne h.eye h.sig (by decide)), ?_, h.own.but hbp (h.own.apart h.sig (by decide)), h.below.trans ((hbp.mono h.below.size).below h.newP), h.newY, h.newP⟩
  rw [heap_setCell_same _ _ _ _ _ _ h.sig]
  rfl
theorem SRd.set1 {w0 W : World} {yb p i n : Nat} {v : Value} {ls : List (List UInt8)} {st : List UInt8 × Int} (j : Nat) (h : SRd w0 yb p i n v ls st W) : SRd w0 yb p i j v ls st (W.setCell ⟨p, 1, none⟩ (.int .i64 (j : Int))) := by
  have hbp : But W.heap.size p W (W.setCell ⟨p, 1, none⟩ (.int .i64 (j : Int))) := (But.refl _ p _).setCell _ (.inl rfl) _
  refine ⟨h.eye.typed hbp h.sig (by decide) (eye_ne h.eye h.sig (by decide)), ?_, h.own.but hbp (h.own.apart h.sig (by decide)), h.below.trans ((hbp.mono h.below.size).below h.newP), h.newY, h.newP⟩
  rw [heap_setCell_same _ _ _ _ _ _ h.sig]
  rfl
theorem SRd.cell {w0 W : World} {yb p i n : Nat} {v : Value} {ls : List (List UInt8)} {st : List UInt8 × Int} (h : SRd w0 yb p i n v ls st W) : W.cell? ⟨p, 0, none⟩ = some (.int .i64 (i : Int)) ∧ W.cell? ⟨p, 1, none⟩ = some (.int .i64 (n : Int)) ∧ W.cell? ⟨p, 2, none⟩ = some v ∧ W.cell? ⟨p, 3, none⟩ = some (.slice none 0 0) ∧ ∀ j, W.frozen? ⟨p, j, none⟩ = false :=
  ⟨by rw [cell_of_row _ _ _ _ _ _ h.sig]; rfl, by rw [cell_of_row _ _ _ _ _ _ h.sig]; rfl, by rw [cell_of_row _ _ _ _ _ _ h.sig]; rfl, by rw [cell_of_row _ _ _ _ _ _ h.sig]; rfl, fun j => frozen_of_row _ _ _ _ _ h.sig⟩
/-- What read tells of any bytes. -/
def SigIs (w : World) (b : List UInt8) (e : Ending) (w' : World) : Prop :=
  Below w.heap.size w w' ∧ ((sigE b ≠ 0 ∧ e = .returned (.tuple #[.agg #[.int .i64 0, .int .i64 0, .slice none 0 0, .slice none 0 0], .bool false])) ∨
    (sigE b = 0 ∧ ∃ (ap ab : Option Addr) (cp cb m : Nat), e = .returned (.tuple #[.agg #[.int .i64 (sigA b).1, .int .i64 (sigN b).1, .slice ap (sigP b).1.length cp, .slice ab m cb], .bool true]) ∧ Sums w' ap (sigP b).1.length cp (sigP b).1 ∧ Row w' ab m cb (sigT b).1))
theorem build_sig16 (w : World) : (Instr.build 116 ([] : List (Nat × Value)).toArray).run Tryz.prog w = .ok (.agg #[.int .i64 0, .int .i64 0, .slice none 0 0, .slice none 0 0]) w := by kernel_rfl
theorem eye_cellsS {w : World} {yb : Nat} {l : List UInt8} {e : Int} (h : EyeAt w yb l e) : ∃ cs, w.heap[yb]? = some (.cells cs 95 (0, 0)) := by
  obtain ⟨a, N, c, hh, _⟩ := h
  exact ⟨_, hh⟩
set_option linter.unusedSimpArgs false in
set_option maxRecDepth 100000 in
set_option maxHeartbeats 6400000 in
theorem sigread_any {w : World} {a : Option Addr} {m c : Nat} {b : List UInt8} (hr : Row w a m c b) (hm : m ≤ 1000000) :
    Calls Tryz.prog 55 #[.slice a m c] w (SigIs w b) := by
  have hbl : b.length ≤ 1000000 := by rw [hr.1]; exact hm
  obtain ⟨⟨q1, q2⟩, ⟨q3, q4⟩, q5, q6⟩ := sig_ranges b
  obtain ⟨l1, l2, l3⟩ := sig_les b
  obtain ⟨i, ei⟩ : ∃ i : Nat, (i : Int) = (sigA b).1 := ⟨(sigA b).1.toNat, by omega⟩
  obtain ⟨n, en⟩ : ∃ i : Nat, (i : Int) = (sigN b).1 := ⟨(sigN b).1.toNat, by omega⟩
  obtain ⟨k, ek⟩ : ∃ i : Nat, (i : Int) = (sigK b).1 := ⟨(sigK b).1.toNat, by omega⟩
  have hk8 : k ≤ 8 := by omega
  have ekn : (sigK b).1.toNat = k := by omega
  obtain ⟨s1, es1⟩ : ∃ r, (sigA b).2 = r := ⟨_, rfl⟩
  obtain ⟨s2, es2⟩ : ∃ r, (sigN b).2 = r := ⟨_, rfl⟩
  obtain ⟨s3, es3⟩ : ∃ r, (sigK b).2 = r := ⟨_, rfl⟩
  have ep : sigP b = sumsAt s3 k := by unfold sigP; rw [es3, ekn]
  obtain ⟨P, eP⟩ : ∃ r, (sumsAt s3 k).1 = r := ⟨_, rfl⟩
  obtain ⟨s4, es4⟩ : ∃ r, (sumsAt s3 k).2 = r := ⟨_, rfl⟩
  have hPl : P.length = k := by rw [← eP]; exact sumsAt_len _ _
  obtain ⟨T, eT⟩ : ∃ r, (sigT b).1 = r := ⟨_, rfl⟩
  obtain ⟨s5, es5⟩ : ∃ r, (sigT b).2 = r := ⟨_, rfl⟩
  obtain ⟨E, eE⟩ : ∃ r, sigE b = r := ⟨_, rfl⟩
  have ls3 : s3.1.length ≤ 1000000 := by rw [← es3]; omega
  have ls4 : s4.1.length ≤ 1000000 := by rw [← es4]; exact Nat.le_trans (sumsAt_le s3 k) ls3
  have HU1 : Hid (∀ (W : World) (yb : Nat), EyeAt W yb b 0 → Calls Tryz.prog 38 #[.pointer (some ⟨yb, 0, none⟩), .int .i64 64] W fun r w' => r = .returned (.int .i64 ((i : Nat) : Int)) ∧ EyeAt w' yb s1.1 s1.2 ∧ But W.heap.size yb W w') := Lib.hid fun W yb he => by
    have h9 := upto_st (s := (b, 0)) 64 he
    rw [ei, ← es1]
    exact h9
  have HU2 : Hid (∀ (W : World) (yb : Nat), EyeAt W yb s1.1 s1.2 → Calls Tryz.prog 38 #[.pointer (some ⟨yb, 0, none⟩), .int .i64 64] W fun r w' => r = .returned (.int .i64 ((n : Nat) : Int)) ∧ EyeAt w' yb s2.1 s2.2 ∧ But W.heap.size yb W w') := Lib.hid fun W yb he => by
    have h9 := upto_st (s := s1) 64 he
    rw [en, ← es2]
    unfold sigN
    rw [es1]
    exact h9
  have HU3 : Hid (∀ (W : World) (yb : Nat), EyeAt W yb s2.1 s2.2 → Calls Tryz.prog 38 #[.pointer (some ⟨yb, 0, none⟩), .int .i64 8] W fun r w' => r = .returned (.int .i64 ((k : Nat) : Int)) ∧ EyeAt w' yb s3.1 s3.2 ∧ But W.heap.size yb W w') := Lib.hid fun W yb he => by
    have h9 := upto_st (s := s2) 8 he
    rw [ek, ← es3]
    unfold sigK
    rw [es2]
    exact h9
  have HST : Hid (∀ j, (sumR (sumsAt s3 j).2).1.length = 32 ∧ ∀ (W : World) (yb : Nat), EyeAt W yb (sumsAt s3 j).2.1 (sumsAt s3 j).2.2 → Calls Tryz.prog 24 #[.pointer (some ⟨yb, 0, none⟩)] W fun r w' => r = .returned (.agg (cellsOf (sumR (sumsAt s3 j).2).1).toArray) ∧ EyeAt w' yb (sumsAt s3 (j + 1)).2.1 (sumsAt s3 (j + 1)).2.2 ∧ But W.heap.size yb W w') := Lib.hid fun j =>
    ⟨sumR_len _, fun W yb he => sum_st (s := (sumsAt s3 j).2) W he (by have h9 := sumsAt_le s3 j; omega)⟩
  have HU5 : Hid (∀ (W : World) (yb : Nat), EyeAt W yb s4.1 s4.2 → Calls Tryz.prog 23 #[.pointer (some ⟨yb, 0, none⟩), .int .i64 4096] W (TellsT yb T s5.1 s5.2 W)) := Lib.hid fun W yb he => by
    have h9 := text_st (s := s4) W 4096 he (by omega)
    rw [← eT, ← es5]
    unfold sigT
    rw [ep, es4]
    exact h9
  have HDN : Hid (∀ (W : World) (yb : Nat), EyeAt W yb s5.1 s5.2 → Calls Tryz.prog 25 #[.pointer (some ⟨yb, 0, none⟩)] W fun r w' => r = .returned (.int .i64 E) ∧ (∃ s' : List UInt8 × Int, EyeAt w' yb s'.1 s'.2) ∧ But W.heap.size yb W w') := Lib.hid fun W yb he => by
    have h9 := done_st (s := s5) W he
    rw [← eE]
    unfold sigE
    rw [es5]
    exact h9
  have GOY : Hid (E = 0 → ∀ (w' : World) (ap ab : Option Addr) (cp cb m : Nat), Below w.heap.size w w' → Sums w' ap P.length cp P → Row w' ab m cb T → SigIs w b (.returned (.tuple #[.agg #[.int .i64 (i : Int), .int .i64 (n : Int), .slice ap P.length cp, .slice ab m cb], .bool true])) w') := Lib.hid fun h0 w' ap ab cp cb m h1 h2 h3 => by
    unfold SigIs
    rw [eE, ← ei, ← en, ep, eP, eT]
    exact ⟨h1, .inr ⟨h0, ap, ab, cp, cb, m, rfl, h2, h3⟩⟩
  have GON : Hid (E ≠ 0 → ∀ w' : World, Below w.heap.size w w' → SigIs w b (.returned (.tuple #[.agg #[.int .i64 0, .int .i64 0, .slice none 0 0, .slice none 0 0], .bool false])) w') := Lib.hid fun h0 w' h1 => by
    unfold SigIs
    rw [eE]
    exact ⟨h1, .inl ⟨h0, rfl⟩⟩
  have HEP := Lib.hid eP
  have HES := Lib.hid es4
  have HPL := Lib.hid hPl
  have HR := Lib.hid hr
  have HM := Lib.hid hm
  clear hbl q1 q2 q3 q4 q5 q6 l1 l2 l3 ei en ek ekn es1 es2 es3 ep eP es4 hPl eT es5 eE ls3 ls4 hr hm
  go_enter Tryz.func55, Tryz.ntmps55
  go_upto_region 1 with (fail)
  have b0 : Below w.heap.size w (w.alloc (.cells #[.int .i64 0, .int .i64 0, .slice none 0 0, .slice none 0 0] 116)) := (Below.refl _ _).alloc (Nat.le_refl _) _
  have h0 := heap_alloc_new w (.cells #[.int .i64 0, .int .i64 0, .slice none 0 0, .slice none 0 0] 116)
  revert b0 h0
  generalize (w.alloc (.cells #[.int .i64 0, .int .i64 0, .slice none 0 0, .slice none 0 0] 116)) = w0
  generalize hr0 : w.heap.size = r0
  intro b0 h0
  have HB0 := Lib.hid (show Below w.heap.size w w0 by rw [hr0]; exact b0)
  have H0 := Lib.hid h0
  have HR0 := Lib.hid hr0
  clear b0 h0 hr0
  go_wp2_with fail
  refine (look_any (HR.out.below HB0.out) (by have h9 := HM.out; omega)).mono ?_
  rintro e w1 ⟨yb, rfl, hyb, heye, hb1⟩
  have HB1 := Lib.hid hb1
  have HEYE := Lib.hid heye
  have HYB := Lib.hid hyb
  clear hb1 heye hyb
  go_upto_region 3 with (fail)
  have hrd : SRd w0 yb w1.heap.size 0 0 (.slice none 0 0) [] (b, 0) (w1.alloc (.cells #[.int .i64 0, .int .i64 0, .slice none 0 0, .slice none 0 0] 116)) :=
    have b : Below w1.heap.size w1 (w1.alloc (.cells #[.int .i64 0, .int .i64 0, .slice none 0 0, .slice none 0 0] 116)) := (Below.refl _ _).alloc (Nat.le_refl _) _
    ⟨HEYE.out.below b, heap_alloc_new _ _, OwnS.nil _ _, HB1.out.trans (b.mono HB1.out.size), HYB.out, HB1.out.size⟩
  revert hrd
  generalize (w1.alloc (.cells #[.int .i64 0, .int .i64 0, .slice none 0 0, .slice none 0 0] 116)) = w2
  generalize w1.heap.size = p
  intro hrd
  have HRD2 := Lib.hid hrd
  clear hrd HEYE HB1
  go_wp2_with fail
  refine (HU1.out _ yb HRD2.out.eye).mono ?_
  rintro e w3 ⟨rfl, he3, hb3⟩
  have HRD3 := Lib.hid (HRD2.out.eyed (st' := s1) he3 hb3)
  obtain ⟨c0, _, _, _, f⟩ := HRD3.out.cell
  have f0 := f 0
  clear he3 hb3 f
  go_upto_region 4 with (fail)
  have hrd := HRD3.out.set0 i
  revert hrd
  generalize w3.setCell ⟨p, 0, none⟩ (.int .i64 (i : Int)) = w4
  intro hrd
  have HRD4 := Lib.hid hrd
  clear hrd c0 f0
  go_wp2_with fail
  refine (HU2.out _ yb HRD4.out.eye).mono ?_
  rintro e w5 ⟨rfl, he5, hb5⟩
  have HRD5 := Lib.hid (HRD4.out.eyed (st' := s2) he5 hb5)
  obtain ⟨_, c1, _, _, f⟩ := HRD5.out.cell
  have f1 := f 1
  clear he5 hb5 f
  go_upto_region 5 with (fail)
  have hrd := HRD5.out.set1 n
  revert hrd
  generalize w5.setCell ⟨p, 1, none⟩ (.int .i64 (n : Int)) = w6
  intro hrd
  have HRD6 := Lib.hid hrd
  clear hrd c1 f1
  go_wp2_with fail
  refine (HU3.out _ yb HRD6.out.eye).mono ?_
  rintro e w7 ⟨rfl, he7, hb7⟩
  have HRD7 := Lib.hid (HRD6.out.eyed (st' := s3) he7 hb7)
  clear he7 hb7 HRD2 HRD3 HRD4 HRD5 HRD6
  go_wp2_with fail
  go_loopw [16] (fun x wr => ∃ (j : Nat) (v : Value), j ≤ k ∧ x = .int .i64 j ∧ SRd w0 yb p i n v (sumsAt s3 j).1 (sumsAt s3 j).2 wr) (fun x _ => k - (intOf x).toNat)
  case atStart => exact ⟨0, _, Nat.zero_le _, rfl, HRD7.out⟩
  case round =>
    obtain ⟨j, v, hj, rfl, hrd⟩ := hrel
    clear HRD7
    by_cases hjk : j < k
    · have d1 : (j : Int) < (k : Int) := by omega
      obtain ⟨hsl, hsum⟩ := HST.out j
      obtain ⟨s, hs⟩ : ∃ s, (sumR (sumsAt s3 j).2).1 = s := ⟨_, rfl⟩
      have hnext : (sumsAt s3 (j + 1)).1 = (sumsAt s3 j).1 ++ [s] := by rw [← hs]; rfl
      have hlt : (sumsAt s3 j).1.length + 1 ≤ 1000000 := by rw [sumsAt_len]; omega
      obtain ⟨done, hdone⟩ : ∃ done, done = (sumsAt s3 j).1 := ⟨_, rfl⟩
      obtain ⟨l, hll⟩ : ∃ l, l = (sumsAt s3 j).2 := ⟨_, rfl⟩
      obtain ⟨l', hl'⟩ : ∃ l', (sumsAt s3 (j + 1)).2 = l' := ⟨_, rfl⟩
      rw [hs, hl', ← hll] at hsum
      rw [hs] at hsl
      rw [← hdone] at hrd hnext hlt
      rw [← hll] at hrd
      have HR0' := Lib.hid hrd.drew
      have HSL := Lib.hid hsl
      have HSUM := Lib.hid hsum
      have HLT := Lib.hid hlt
      have HNX := Lib.hid hnext
      have HL := Lib.hid hl'
      clear hrd hsl hl' hnext hsum hlt hdone hll hs
      go_upto_region 7 with (fail)
      refine wp_region_held_drew (S := fun w' => Below w0.heap.size w0 w') (by kernel_rfl) (HR0'.out.below) (fun hHeld => ?_)
      refine tkP 0 rfl rfl ?_
      refine tkP 2 rfl rfl ?_
      refine wpAnyH_ready (rs := [1, 3]) (by kernel_rfl) (by simp) ?_
      refine AllReadyH.cons rfl (fun K hK => ?_) ?_
      · refine step_cell (d := 19) rfl (by rfl) 114 _ rfl p 2 rfl v HR0'.out.cell.2.2.1 (by kernel_rfl) ?_
        refine hK.out _ _ (by (try dsimp only); exact hHeld) (fun hHeld => ?_)
        clear hK K
        refine tkR 3 rfl (fun K hK => ?_)
        go_simp
        go_wp2_with ((go_at_call 24; (with_reducible refine (HSUM.out _ yb HR0'.out.eye).mono ?_); rintro e x3 ⟨rfl, he3, hb3⟩; have HR3 := Lib.hid (HR0'.out.eyed (st' := l') he3 hb3); clear he3 hb3))
        refine hK.out _ _ (by (try dsimp only); exact HR3.out.below) (fun hHeld => ?_)
        clear hK K
        refine tkR 4 rfl (fun K hK => ?_)
        refine step_build1_gen (d := 22) rfl _ (by rfl) rfl rfl HSL.out ?_
        intro g x4 _ hs4 hb4
        have HS4 := Lib.hid hs4
        have HR4 := Lib.hid (HR3.out.more hb4)
        clear hs4 hb4
        refine hK.out _ _ (by (try dsimp only); exact HR4.out.below) (fun hHeld => ?_)
        clear hK K
        refine tkR 5 rfl (fun K hK => ?_)
        refine step_append_gen (d := 23) rfl (by rfl) _ _ rfl rfl w0.heap.size v done rfl HR4.out.own _ 1 1 [s] rfl HS4.out HLT.out HR4.out.below.size ?_
        intro u x5 ho5 hg5
        have HX5 := Lib.hid (HR4.out.grown ho5 hg5)
        have HO5 := Lib.hid ho5.one
        clear ho5 hg5
        refine hK.out _ _ (by (try dsimp only); exact HX5.out.1) (fun hHeld => ?_)
        clear hK K
        refine tkP 6 rfl rfl ?_
        refine tkR 7 rfl (fun K hK => ?_)
        refine step_store_cell (by rfl) 114 _ _ rfl p 2 rfl u rfl v HX5.out.2.1 HX5.out.2.2.1 (by kernel_rfl) HO5.out ?_
        refine hK.out _ _ (by (try dsimp only); exact HX5.out.2.2.2.below) (fun hHeld => ?_)
        clear hK K
        refine wpAnyH_done (by kernel_rfl) ?_ _
        have HR7 := Lib.hid HX5.out.2.2.2
        clear hHeld
        go_wp2_with fail
        go_roundw
        case rel => exact ⟨j + 1, u, by omega, by go_num, by rw [HNX.out, HL.out]; exact HR7.out⟩
        case measure => simp [intOf]; omega
      refine AllReadyH.cons rfl (fun K hK => ?_) ?_
      · go_simp
        go_wp2_with ((go_at_call 24; (with_reducible refine (HSUM.out _ yb HR0'.out.eye).mono ?_); rintro e x3 ⟨rfl, he3, hb3⟩; have HR3 := Lib.hid (HR0'.out.eyed (st' := l') he3 hb3); clear he3 hb3))
        refine hK.out _ _ (by (try dsimp only); exact HR3.out.below) (fun hHeld => ?_)
        clear hK K
        refine wpAnyH_ready (rs := [1, 4]) (by kernel_rfl) (by simp) ?_
        refine AllReadyH.cons rfl (fun K hK => ?_) ?_
        · refine step_cell (d := 19) rfl (by rfl) 114 _ rfl p 2 rfl v HR3.out.cell.2.2.1 (by kernel_rfl) ?_
          refine hK.out _ _ (by (try dsimp only); exact hHeld) (fun hHeld => ?_)
          clear hK K
          refine tkR 4 rfl (fun K hK => ?_)
          refine step_build1_gen (d := 22) rfl _ (by rfl) rfl rfl HSL.out ?_
          intro g x4 _ hs4 hb4
          have HS4 := Lib.hid hs4
          have HR4 := Lib.hid (HR3.out.more hb4)
          clear hs4 hb4
          refine hK.out _ _ (by (try dsimp only); exact HR4.out.below) (fun hHeld => ?_)
          clear hK K
          refine tkR 5 rfl (fun K hK => ?_)
          refine step_append_gen (d := 23) rfl (by rfl) _ _ rfl rfl w0.heap.size v done rfl HR4.out.own _ 1 1 [s] rfl HS4.out HLT.out HR4.out.below.size ?_
          intro u x5 ho5 hg5
          have HX5 := Lib.hid (HR4.out.grown ho5 hg5)
          have HO5 := Lib.hid ho5.one
          clear ho5 hg5
          refine hK.out _ _ (by (try dsimp only); exact HX5.out.1) (fun hHeld => ?_)
          clear hK K
          refine tkP 6 rfl rfl ?_
          refine tkR 7 rfl (fun K hK => ?_)
          refine step_store_cell (by rfl) 114 _ _ rfl p 2 rfl u rfl v HX5.out.2.1 HX5.out.2.2.1 (by kernel_rfl) HO5.out ?_
          refine hK.out _ _ (by (try dsimp only); exact HX5.out.2.2.2.below) (fun hHeld => ?_)
          clear hK K
          refine wpAnyH_done (by kernel_rfl) ?_ _
          have HR7 := Lib.hid HX5.out.2.2.2
          clear hHeld
          go_wp2_with fail
          go_roundw
          case rel => exact ⟨j + 1, u, by omega, by go_num, by rw [HNX.out, HL.out]; exact HR7.out⟩
          case measure => simp [intOf]; omega
        refine AllReadyH.cons rfl (fun K hK => ?_) ?_
        · refine step_build1_gen (d := 22) rfl _ (by rfl) rfl rfl HSL.out ?_
          intro g x4 _ hs4 hb4
          have HS4 := Lib.hid hs4
          have HR4 := Lib.hid (HR3.out.more hb4)
          clear hs4 hb4
          refine hK.out _ _ (by (try dsimp only); exact HR4.out.below) (fun hHeld => ?_)
          clear hK K
          refine tkR 1 rfl (fun K hK => ?_)
          refine step_cell (d := 19) rfl (by rfl) 114 _ rfl p 2 rfl v HR4.out.cell.2.2.1 (by kernel_rfl) ?_
          refine hK.out _ _ (by (try dsimp only); exact hHeld) (fun hHeld => ?_)
          clear hK K
          refine tkR 5 rfl (fun K hK => ?_)
          refine step_append_gen (d := 23) rfl (by rfl) _ _ rfl rfl w0.heap.size v done rfl HR4.out.own _ 1 1 [s] rfl HS4.out HLT.out HR4.out.below.size ?_
          intro u x5 ho5 hg5
          have HX5 := Lib.hid (HR4.out.grown ho5 hg5)
          have HO5 := Lib.hid ho5.one
          clear ho5 hg5
          refine hK.out _ _ (by (try dsimp only); exact HX5.out.1) (fun hHeld => ?_)
          clear hK K
          refine tkP 6 rfl rfl ?_
          refine tkR 7 rfl (fun K hK => ?_)
          refine step_store_cell (by rfl) 114 _ _ rfl p 2 rfl u rfl v HX5.out.2.1 HX5.out.2.2.1 (by kernel_rfl) HO5.out ?_
          refine hK.out _ _ (by (try dsimp only); exact HX5.out.2.2.2.below) (fun hHeld => ?_)
          clear hK K
          refine wpAnyH_done (by kernel_rfl) ?_ _
          have HR7 := Lib.hid HX5.out.2.2.2
          clear hHeld
          go_wp2_with fail
          go_roundw
          case rel => exact ⟨j + 1, u, by omega, by go_num, by rw [HNX.out, HL.out]; exact HR7.out⟩
          case measure => simp [intOf]; omega
        exact AllReadyH.nil
      exact AllReadyH.nil
    · have d1 : ¬ ((j : Int) < (k : Int)) := by omega
      obtain rfl : j = k := by omega
      rw [HEP.out, HES.out] at hrd
      have HRD := Lib.hid hrd
      clear hrd
      go_wp2_with fail
      refine (HU5.out _ yb HRD.out.eye).mono ?_
      rintro e x1 ⟨ab, mb, cb, rfl, hrow, hfresh, he, hb, _⟩
      have HR1 := Lib.hid (HRD.out.eyed (st' := s5) he hb)
      have HROW := Lib.hid hrow
      have HFR : Hid (∀ x, ab = some x → w0.heap.size ≤ x.block) := Lib.hid (fun x e => Nat.le_trans HRD.out.below.size (hfresh x e))
      obtain ⟨_, _, _, c3, f⟩ := HR1.out.cell
      have f3 := f 3
      clear hrow hfresh he hb f
      go_upto_region 10 with (fail)
      obtain ⟨ap, cp, rfl, hap⟩ := HR1.out.own.shape
      have hb2 : But x1.heap.size p x1 (x1.setCell ⟨p, 3, none⟩ (.slice ab mb cb)) := (But.refl _ p _).setCell _ (.inl rfl) _
      have hsig : (x1.setCell ⟨p, 3, none⟩ (.slice ab mb cb)).heap[p]? = some (.cells #[.int .i64 (i : Int), .int .i64 (n : Int), .slice ap P.length cp, .slice ab mb cb] 116 (0, 0)) := by rw [heap_setCell_same _ _ _ _ _ _ HR1.out.sig]; rfl
      have he2 := HR1.out.eye.typed hb2 HR1.out.sig (by decide) (eye_ne HR1.out.eye HR1.out.sig (by decide))
      have hr2 := HROW.out.butN hb2 (noBytes_four HR1.out.sig (fun _ h => by cases h) (fun _ h => by cases h) (fun _ h => by cases h) (fun _ h => by cases h))
      have ho2 := HR1.out.own.but hb2 (HR1.out.own.apart HR1.out.sig (by decide))
      have hbl : Below w0.heap.size w0 (x1.setCell ⟨p, 3, none⟩ (.slice ab mb cb)) := HR1.out.below.trans ((hb2.mono HR1.out.below.size).below HR1.out.newP)
      revert hsig he2 hr2 ho2 hbl
      generalize x1.setCell ⟨p, 3, none⟩ (.slice ab mb cb) = x2
      intro hsig he2 hr2 ho2 hbl
      have hNB := he2.noBytes
      have hNE := eye_ne he2 hsig (by decide)
      have hYT := ho2.apart (b := yb) (cs := (eye_cellsS he2).choose) (eye_cellsS he2).choose_spec (by decide)
      have HNY : Hid (w0.heap.size ≤ yb) := Lib.hid HR1.out.newY
      clear c3 f3 hb2
      go_wp2_with fail
      refine (HDN.out _ yb he2).mono ?_
      rintro e x3 ⟨rfl, _, hb3⟩
      have HSIG := Lib.hid (hb3.heap hsig (lt_of_block hsig) (fun e => hNE e.symm))
      have HR2 := Lib.hid (hr2.butN hb3 hNB)
      have HO2 := Lib.hid (ho2.but hb3 hYT)
      have HBL := Lib.hid (hbl.trans ((hb3.mono hbl.size).below HNY.out))
      have HAP := Lib.hid hap
      have HRR := Lib.hid ((HBL.out.block _ (lt_of_block H0.out)).trans H0.out)
      have hlt0 : r0 < w0.heap.size := lt_of_block H0.out
      clear hb3 hsig he2 hr2 ho2 hbl hap HR1 HROW HRD hNB hNE hYT
      by_cases h0 : E = 0
      · have GO := Lib.hid (GOY.out h0)
        subst h0
        clear GOY GON
        have hb : ((0 : Int) != 0) = false := by decide
        go_wp2_with (first | (refine wpList_load_row rfl 116 _ rfl p rfl 116 _ (0, 0) _ HSIG.out Tryz.underlying116 rfl (by kernel_rfl) ?_) | (refine wpList_store_row rfl 116 _ _ rfl r0 #[.int .i64 (i : Int), .int .i64 (n : Int), .slice ap P.length cp, .slice ab mb cb] rfl rfl 116 _ HRR.out (by kernel_rfl) rfl (four_all rfl rfl rfl rfl) ?_))
        have hb4 := but_setRow x3 r0 #[.int .i64 (i : Int), .int .i64 (n : Int), .slice ap P.length cp, .slice ab mb cb]
        refine bodyPost_ret (results_cell_then rfl _ _ r0 116 #[.int .i64 (i : Int), .int .i64 (n : Int), .slice ap P.length cp, .slice ab mb cb] (0, 0) _ (.bool true) rfl rfl (setRow_heap x3 r0 _ _ 116 _ HRR.out) Tryz.underlying116 rfl (by kernel_rfl)) rfl (GO.out _ ap ab cp cb mb ?_ ?_ ?_)
        · exact HB0.out.trans ((HBL.out.mono HB0.out.size).trans ((hb4.mono (Nat.le_trans HB0.out.size HBL.out.size)).below (by rw [HR0.out]; exact Nat.le_refl _)))
        · exact HO2.out.sums.but hb4 (fun _ b off e => by have := HAP.out _ e; simp at this; omega)
        · exact HR2.out.but hb4 (fun _ b off e => by have := HFR.out _ e; simp at this; omega)
      · have GO := Lib.hid (GON.out h0)
        clear GOY GON
        have hb : (E != 0) = true := by simpa using h0
        go_wp2_with (first | (refine wpList_build10 rfl rfl (vs := []) (by rfl) build_sig16 ?_; go_frame) | (refine wpList_store_row rfl 116 _ _ rfl r0 #[.int .i64 0, .int .i64 0, .slice none 0 0, .slice none 0 0] rfl rfl 116 _ HRR.out (by kernel_rfl) rfl (four_all rfl rfl rfl rfl) ?_))
        have hb4 := but_setRow x3 r0 #[.int .i64 0, .int .i64 0, .slice none 0 0, .slice none 0 0]
        refine bodyPost_ret (results_cell_then rfl _ _ r0 116 #[.int .i64 0, .int .i64 0, .slice none 0 0, .slice none 0 0] (0, 0) _ (.bool false) rfl rfl (setRow_heap x3 r0 _ _ 116 _ HRR.out) Tryz.underlying116 rfl (by kernel_rfl)) rfl (GO.out _ ?_)
        exact HB0.out.trans ((HBL.out.mono HB0.out.size).trans ((hb4.mono (Nat.le_trans HB0.out.size HBL.out.size)).below (by rw [HR0.out]; exact Nat.le_refl _)))
end Go.Proofs.YtcmdpmialehjgaaGreatDoor
namespace Go.Proofs.YtcmdpmialehjgaaGreatDoor
open Go.RowKit

/-- Whether any bytes are a text's signature under a root. -/
def sigOk (R t b : List UInt8) : Bool :=
  decide (sigE b = 0) && (decide ((sigT b).1.length = 4096) && (decide ((sigA b).1 < (sigN b).1) && decide (ascend pairSum 12 (leafSum (backOf t (sigT b).1)) (sigA b).1.toNat (sigN b).1.toNat (sigP b).1 = some R)))
def zeroSig : List Value := [.int .i64 0, .int .i64 0, .slice none 0 0, .slice none 0 0]
theorem Tryz.infoSigM : (Tryz.prog.info? 116).map (fun i => (i.zero, i.size, i.bytes)) = some (some (.agg zeroSig.toArray), 4, 64) := by kernel_rfl
theorem Tryz.infoSumM : (Tryz.prog.info? 23).map (fun i => (i.zero, i.size, i.bytes)) = some (some (.agg (cellsOf zero32).toArray), 32, 32) := by kernel_rfl
theorem sumLenV {s : List UInt8} (h : s.length = 32) : (Tryz.prog.info? 23).map (·.size) = some (cellsOf s).length := by rw [cellsOf_len, h]; exact Tryz.size23
theorem fourV {a b c d : Value} (h1 : a.oneCell' = true) (h2 : b.oneCell' = true) (h3 : c.oneCell' = true) (h4 : d.oneCell' = true) : ∀ v ∈ [a, b, c, d], v.oneCell' = true := by
  intro v hv
  simp only [List.mem_cons, List.not_mem_nil, or_false] at hv
  rcases hv with rfl | rfl | rfl | rfl <;> assumption
set_option linter.unusedSimpArgs false in
set_option maxRecDepth 100000 in
set_option maxHeartbeats 6400000 in
theorem manyverify_any {w : World} {a b : Option Addr} {m c m' c' : Nat} {R t l : List UInt8} (hRl : R.length = 32) (ht : Row w a m c t) (hm : m ≤ 1000000) (hr : Row w b m' c' l) (hm' : m' ≤ 1000000) (hk : KsAt w) :
    Calls Tryz.prog 42 #[.agg (cellsOf R).toArray, .slice a m c, .slice b m' c'] w fun e w' => e = .returned (.bool (sigOk R t l)) ∧ Below w.heap.size w w' := by
  obtain ⟨D, hD⟩ : ∃ D, sigOk R t l = D := ⟨_, rfl⟩
  obtain ⟨⟨q1, q2⟩, ⟨q3, q4⟩, _⟩ := sig_ranges l
  obtain ⟨i, ei⟩ : ∃ i : Nat, (i : Int) = (sigA l).1 := ⟨(sigA l).1.toNat, by omega⟩
  obtain ⟨n, en⟩ : ∃ i : Nat, (i : Int) = (sigN l).1 := ⟨(sigN l).1.toNat, by omega⟩
  have ein : (sigA l).1.toNat = i := by omega
  have enn : (sigN l).1.toNat = n := by omega
  obtain ⟨P, eP⟩ : ∃ P, (sigP l).1 = P := ⟨_, rfl⟩
  obtain ⟨O, eO⟩ : ∃ O, (sigT l).1 = O := ⟨_, rfl⟩
  obtain ⟨E, eE⟩ : ∃ E, sigE l = E := ⟨_, rfl⟩
  have hDis : D = (decide (E = 0) && (decide (O.length = 4096) && (decide ((i : Int) < (n : Int)) && decide (ascend pairSum 12 (leafSum (backOf t O)) i n P = some R)))) := by
    rw [← hD]
    unfold sigOk
    rw [eE, eO, eP, ein, enn, ← ei, ← en]
  have HRD : Hid (∀ W : World, Below w.heap.size w W → Calls Tryz.prog 55 #[.slice b m' c'] W fun e w' => Below W.heap.size W w' ∧ ((E ≠ 0 ∧ e = .returned (.tuple #[.agg zeroSig.toArray, .bool false])) ∨
    (E = 0 ∧ ∃ (ap ab : Option Addr) (cp cb k M : Nat), M = P.length ∧ e = .returned (.tuple #[.agg ([.int .i64 (i : Int), .int .i64 (n : Int), .slice ap M cp, .slice ab k cb] : List Value).toArray, .bool true]) ∧ Sums w' ap M cp P ∧ Row w' ab k cb O))) := Lib.hid fun W hW => by
    refine (sigread_any (hr.below hW) hm').mono fun e w' h => ?_
    unfold SigIs at h
    rw [eE, eP, eO, ← ei, ← en] at h
    rcases h with ⟨h1, ⟨h2, h3⟩ | ⟨h2, ap, ab, cp, cb, k, h3, h4, h5⟩⟩
    · exact ⟨h1, .inl ⟨h2, h3⟩⟩
    · exact ⟨h1, .inr ⟨h2, ap, ab, cp, cb, k, _, rfl, h3, h4, h5⟩⟩
  have HBO : Hid (∀ (W : World) (ab : Option Addr) (k cb : Nat), k ≠ 4096 → Calls Tryz.prog 56 #[.slice a m c, .slice ab k cb] W fun e w' => e = .returned (.tuple #[.agg (cellsOf zero32).toArray, .int .i64 11]) ∧ Below W.heap.size W w') := Lib.hid fun W ab k cb h => back_out h
  obtain ⟨Kf, hKf⟩ : ∃ Kf, backOf t O = Kf := ⟨_, rfl⟩
  have hKl : Kf.length = 32 := by rw [← hKf]; exact backOf_len _ _
  have HBK : Hid (∀ (W : World) (ab : Option Addr) (cb : Nat), Below w.heap.size w W → Row W ab 4096 cb O → Calls Tryz.prog 56 #[.slice a m c, .slice ab 4096 cb] W fun e w' => e = .returned (.tuple #[.agg (cellsOf Kf).toArray, .int .i64 0]) ∧ Below W.heap.size W w') := Lib.hid fun W ab cb hW h2 => by
    rw [← hKf]
    exact back_in (ht.below hW) hm h2 (hk.below hW)
  rw [hKf] at hDis
  have HCK : Hid (∀ (W : World) (ap : Option Addr) (cp M : Nat), E = 0 → O.length = 4096 → M = P.length → Below w.heap.size w W → Sums W ap M cp P → Calls Tryz.prog 57 #[.agg (cellsOf R).toArray, .agg (cellsOf Kf).toArray, .int .i64 (i : Int), .int .i64 (n : Int), .slice ap M cp] W fun e w' => e = .returned (.bool D) ∧ Below W.heap.size W w') := Lib.hid fun W ap cp M h0 h1 h2 hW h3 => by
    subst h2
    by_cases hi : i < n
    · have h9 := check_in (r := R) (s := Kf) i n hi (by omega) hRl hKl h3 (hk.below hW)
      rw [hDis, h0, h1, decide_eq_true (show (i : Int) < (n : Int) by omega)]
      simpa using h9
    · rw [hDis, decide_eq_false (show ¬ (i : Int) < (n : Int) by omega)]
      simp only [Bool.false_and, Bool.and_false]
      exact check_out (i : Int) (n : Int) (.inr (.inr (by omega)))
  rw [hD]
  have HDI := Lib.hid hDis
  have SZR := Lib.hid (size_of hRl)
  have SZK := Lib.hid (size_of hKl)
  have SKL : Hid ((cellsOf Kf).length = 32) := Lib.hid (by rw [cellsOf_len, hKl])
  have HT := Lib.hid ht
  have HK := Lib.hid hk
  clear hRl ht hm hr hm' hk hD q1 q2 q3 q4 ei en ein enn eP eO eE hDis hKf hKl
  go_enter Tryz.func42, Tryz.ntmps42
  go_upto_region 1 with (fail)
  have b1 : Below w.heap.size w (w.alloc (.cells (cellsOf R).toArray 23)) := (Below.refl _ _).alloc (Nat.le_refl _) _
  have h1 : (w.alloc (.cells (cellsOf R).toArray 23)).heap[w.heap.size]? = some (.cells (cellsOf R).toArray 23 (0, 0)) := heap_alloc_new _ _
  revert b1 h1
  generalize (w.alloc (.cells (cellsOf R).toArray 23)) = w1
  obtain ⟨g, hg⟩ : ∃ g, g = w.heap.size := ⟨_, rfl⟩
  rw [← hg]
  intro b1 h1
  rw [hg] at b1
  have HB1 := Lib.hid b1
  have H1 := Lib.hid h1
  clear b1 h1 hg
  go_wp2_with fail
  refine (HRD.out _ HB1.out).mono ?_
  rintro e w2 ⟨hb2, ⟨h0, rfl⟩ | ⟨h0, ap, ab, cp, cb, k, M, hM, rfl, hsp, hsr⟩⟩
  · have HB2 := Lib.hid (bthen HB1.out hb2)
    clear hb2
    have hd : D = false := by rw [HDI.out, decide_eq_false h0]; rfl
    clear h0
    go_wp2_with (first | (refine wpList_var rfl rfl 116 rfl _ _ rfl zeroSig.toArray Tryz.infoSigM rfl zeroSig (fun _ => rfl) (fun _ => rfl) rfl (fourV rfl rfl rfl rfl) ?_; intro p w3 hq hh hb; go_frame; have HB3 := Lib.hid (bthen HB2.out hb); clear hq hh hb) | fail)
    go_ret
    exact ⟨by rw [hd] <;> rfl, HB3.out⟩
  · have HB2 := Lib.hid (bthen HB1.out hb2)
    have H2 := Lib.hid (keep hb2 H1.out)
    have HSP := Lib.hid hsp
    have HSR := Lib.hid hsr
    have HM := Lib.hid hM
    have HE := Lib.hid h0
    clear hb2 hsp hsr hM h0
    go_upto_region 2 with (first | (refine wpList_var rfl rfl 116 rfl _ _ rfl zeroSig.toArray Tryz.infoSigM rfl [.int .i64 (i : Int), .int .i64 (n : Int), .slice ap M cp, .slice ab k cb] (fun _ => rfl) (fun _ => rfl) rfl (fourV rfl rfl rfl rfl) ?_; intro p w3 hq hh hb; go_frame; have HB3 := Lib.hid (bthen HB2.out hb); have H3 := Lib.hid (keep hb H2.out); have HSP3 := Lib.hid (HSP.out.below hb); have HSR3 := Lib.hid (HSR.out.below hb); have HP3 := Lib.hid hh; clear hq hh hb) | fail)
    have c3 : w3.cell? ⟨p, 3, none⟩ = some (.slice ab k cb) := by rw [cell_of_row _ _ _ _ _ _ HP3.out]; rfl
    by_cases hk4 : k = 4096
    · subst hk4
      have HO : Hid (O.length = 4096) := Lib.hid HSR3.out.1
      go_upto_region 5 with (first | (go_at_call 56; (with_reducible refine (HBK.out _ ab cb HB3.out HSR3.out).mono ?_); rintro e w4 ⟨rfl, hb⟩; have HB4 := Lib.hid (bthen HB3.out hb); have H4 := Lib.hid (keep hb H3.out); have HP4 := Lib.hid (keep hb HP3.out); have HSP4 := Lib.hid (HSP3.out.below hb); clear hb) | (refine wpList_var rfl rfl 23 rfl _ _ rfl (cellsOf zero32).toArray Tryz.infoSumM rfl (cellsOf Kf) (fun _ => rfl) (fun _ => rfl) SKL.out (cellsOf_one _) ?_; intro q w5 hq hh hb; go_frame; have HB5 := Lib.hid (bthen HB4.out hb); have H5 := Lib.hid (keep hb H4.out); have HQ5 := Lib.hid hh; have HP5 := Lib.hid (keep hb HP4.out); have HSP5 := Lib.hid (HSP4.out.below hb); clear hq hh hb) | fail)
      clear c3
      have c0 : w5.cell? ⟨p, 0, none⟩ = some (.int .i64 (i : Int)) := by rw [cell_of_row _ _ _ _ _ _ HP5.out]; rfl
      have c1 : w5.cell? ⟨p, 1, none⟩ = some (.int .i64 (n : Int)) := by rw [cell_of_row _ _ _ _ _ _ HP5.out]; rfl
      have c2 : w5.cell? ⟨p, 2, none⟩ = some (.slice ap M cp) := by rw [cell_of_row _ _ _ _ _ _ HP5.out]; rfl
      go_wp2_with (first | (refine wpList_load_wanted (by rfl) 23 _ rfl q rfl 23 (cellsOf Kf).toArray (0, 0) _ HQ5.out Tryz.underlying23 rfl SZK.out ?_) | (refine wpList_load_wanted (by rfl) 23 _ rfl g rfl 23 (cellsOf R).toArray (0, 0) _ H5.out Tryz.underlying23 rfl SZR.out ?_) | (go_at_call 57; (with_reducible refine (HCK.out _ ap cp M HE.out HO.out HM.out HB5.out HSP5.out).mono ?_); rintro e w6 ⟨rfl, hb⟩; have HB6 := Lib.hid (bthen HB5.out hb); clear hb) | fail)
      go_ret
      exact ⟨rfl, HB6.out⟩
    · have hd : D = false := by
        have h9 : ¬ O.length = 4096 := fun h => hk4 (by rw [← HSR3.out.1]; exact h)
        rw [HDI.out, decide_eq_false h9]
        simp
      go_upto_region 5 with (first | (go_at_call 56; (with_reducible refine (HBO.out _ ab k cb hk4).mono ?_); rintro e w4 ⟨rfl, hb⟩; have HB4 := Lib.hid (bthen HB3.out hb); have H4 := Lib.hid (keep hb H3.out); have HP4 := Lib.hid (keep hb HP3.out); have HSP4 := Lib.hid (HSP3.out.below hb); clear hb) | (refine wpList_var rfl rfl 23 rfl _ _ rfl (cellsOf zero32).toArray Tryz.infoSumM rfl (cellsOf zero32) (fun _ => rfl) (fun _ => rfl) rfl (cellsOf_one _) ?_; intro q w5 hq hh hb; go_frame; have HB5 := Lib.hid (bthen HB4.out hb); have H5 := Lib.hid (keep hb H4.out); have HQ5 := Lib.hid hh; have HP5 := Lib.hid (keep hb HP4.out); have HSP5 := Lib.hid (HSP4.out.below hb); clear hq hh hb) | fail)
      clear c3
      go_wp2_with fail
      go_ret
      exact ⟨by rw [hd] <;> rfl, HB5.out⟩
end Go.Proofs.YtcmdpmialehjgaaGreatDoor
