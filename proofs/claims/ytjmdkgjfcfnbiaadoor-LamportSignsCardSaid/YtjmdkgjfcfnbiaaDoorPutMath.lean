/- What is behind a sum under way when more bytes come, as plain lists. -/
import Derived.Test.YtjmdkgjfcfnbiaaDoorHash
namespace Go.Proofs.YtjmdkgjfcfnbiaaDoor
open Go.RowKit

/-- A sum under way that took the bytes l. -/
def SumAt (w : World) (hb : Nat) (l : List UInt8) : Prop := ∃ bs, HashAt w hb (run l (l.length / 64)).list bs l.length ∧ bs.take (l.length % 64) = l.drop (64 * (l.length / 64))

theorem run_more (l q : List UInt8) (k : Nat) (h : (l.length + k) % 64 = 0) (hq : k + 64 ≤ q.length) :
    run (l ++ q.take (k + 64)) ((l.length + (k + 64)) / 64) = compress (run (l ++ q.take k) ((l.length + k) / 64)) ((q.drop k).take 64) := by
  have e : q.take (k + 64) = q.take k ++ (q.drop k).take 64 := List.take_add
  have d : (l.length + (k + 64)) / 64 = (l.length + k) / 64 + 1 := by omega
  rw [e, d, ← List.append_assoc]
  refine run_block _ _ _ ?_ ?_
  · rw [List.length_append, List.length_take]; omega
  · rw [List.length_take, List.length_drop]; omega
theorem splice_full (bs q : List UInt8) (r n : Nat) (hb : bs.length = 64) (hr : r + n = 64) (hq : n ≤ q.length) : splice bs r (q.take n) = bs.take r ++ q.take n := by
  unfold splice
  have e : (q.take n).length = n := by rw [List.length_take]; omega
  rw [e, List.drop_of_length_le (by omega), List.append_nil]
theorem run_fill (l q bs : List UInt8) (n : Nat) (hb : bs.length = 64) (ht : bs.take (l.length % 64) = l.drop (64 * (l.length / 64))) (hn : l.length % 64 + n = 64) (hq : n ≤ q.length) :
    run (l ++ q.take n) ((l.length + n) / 64) = compress (run l (l.length / 64)) (splice bs (l.length % 64) (q.take n)) := by
  rw [splice_full bs q _ n hb hn hq, ht]
  have d : (l.length + n) / 64 = l.length / 64 + 1 := by omega
  have e : l ++ q.take n = l.take (64 * (l.length / 64)) ++ (l.drop (64 * (l.length / 64)) ++ q.take n) := by
    rw [← List.append_assoc, List.take_append_drop]
  have e2 : run l (l.length / 64) = run (l.take (64 * (l.length / 64))) (l.length / 64) := by
    have h := run_append (l.take (64 * (l.length / 64))) (l.drop (64 * (l.length / 64))) (l.length / 64) (by rw [List.length_take]; omega)
    rw [List.take_append_drop] at h
    exact h
  rw [d, e, e2]
  refine run_block _ _ _ ?_ ?_
  · rw [List.length_take]; omega
  · rw [List.length_append, List.length_drop, List.length_take]; omega
theorem splice_len (bs q : List UInt8) (r : Nat) (h : r + q.length ≤ bs.length) : (splice bs r q).length = bs.length := by
  unfold splice
  rw [List.length_append, List.length_append, List.length_take, List.length_drop]; omega
/-- All of them go into the block that is begun. -/
theorem sum_short {w : World} {hb : Nat} (l q bs : List UInt8) (m : Nat) (hm : m = (l ++ q).length) (ht : bs.take (l.length % 64) = l.drop (64 * (l.length / 64))) (hn : l.length % 64 + q.length < 64)
    (hb64 : bs.length = 64) (h : HashAt w hb (run l (l.length / 64)).list (splice bs (l.length % 64) q) m) : SumAt w hb (l ++ q) := by
  subst hm
  have hl : (l ++ q).length = l.length + q.length := List.length_append
  have d : (l ++ q).length / 64 = l.length / 64 := by omega
  have r : (l ++ q).length % 64 = l.length % 64 + q.length := by omega
  refine ⟨_, by rw [d, run_append l q _ (by omega)]; exact h, ?_⟩
  rw [d, r, List.drop_append_of_le_length (by omega), ← ht]
  unfold splice
  have e : (bs.take (l.length % 64)).length = l.length % 64 := by rw [List.length_take]; omega
  rw [← List.append_assoc, List.take_append_of_le_length (by rw [List.length_append, e]; exact Nat.le_refl _), List.take_of_length_le (by rw [List.length_append, e]; exact Nat.le_refl _)]
/-- What is left goes to the block's head. -/
theorem sum_rest {w : World} {hb : Nat} (l q bs : List UInt8) (k m : Nat) (hm : m = (l ++ q).length) (h0 : (l.length + k) % 64 = 0) (hk : k ≤ q.length) (hn : q.length - k < 64)
    (h : HashAt w hb (run (l ++ q.take k) ((l.length + k) / 64)).list (splice bs 0 (q.drop k)) m) : SumAt w hb (l ++ q) := by
  subst hm
  have hl : (l ++ q).length = l.length + q.length := List.length_append
  have d : (l ++ q).length / 64 = (l.length + k) / 64 := by omega
  have r : (l ++ q).length % 64 = q.length - k := by omega
  have e : l ++ q = (l ++ q.take k) ++ q.drop k := by rw [List.append_assoc, List.take_append_drop]
  have ek : (l ++ q.take k).length = l.length + k := by rw [List.length_append, List.length_take]; omega
  have e2 : run (l ++ q) ((l ++ q).length / 64) = run (l ++ q.take k) ((l.length + k) / 64) := by
    rw [d]
    have h := run_append (l ++ q.take k) (q.drop k) ((l.length + k) / 64) (by omega)
    rw [← e] at h
    exact h
  refine ⟨_, by rw [e2]; exact h, ?_⟩
  rw [r, d, show 64 * ((l.length + k) / 64) = l.length + k by omega]
  have e3 : (l ++ q).drop (l.length + k) = q.drop k := by
    rw [e, List.drop_left' ek]
  rw [e3]
  unfold splice
  rw [List.take_zero, List.nil_append, List.take_append_of_le_length (by rw [List.length_drop]; exact Nat.le_refl _), List.take_of_length_le (by rw [List.length_drop]; exact Nat.le_refl _)]

theorem HashAt.copied {w w' : World} {hb m off : Nat} {ws : List (BitVec 32)} {bs q : List UInt8} (h : HashAt w hb ws bs m) (hq : off + q.length ≤ 64) (hh : w'.heap[hb]? = some (.cells (splice (hashRow ws bs m) (8 + off) (cellsOf q)).toArray 45 (0, 0))) : HashAt w' hb ws (splice bs off q) m := by
  refine ⟨?_, h.2.1, by rw [splice_len _ _ _ (by rw [h.2.2]; exact hq)]; exact h.2.2⟩
  rw [hh, hashRow_splice h.2.1 (by rw [h.2.2]; exact hq)]

/-- 'copy' into a row, all other blocks stay. -/
theorem wpList_copy_but {P : Program} {w : World} {ops : Array Oper} {rest : List Oper} {o : Oper} {a : Act} {Q : Exit → Act → World → Prop} (hgd : o.guard = none) (d s : Operand) (dT sT : TypeId)
    (ho : o.op = .call { callee := .builtin .copy, args := #[d, s], argTypes := #[dT, sT] }) (elem : TypeId) (hu : P.underlying dT = some (.slice elem)) (hsz : (P.info? elem).map (·.size) = some 1)
    (dp sp : Option Addr) (dLen dCap sLen sCap : Nat) (hd : a.eval d = .slice dp dLen dCap) (hs : a.eval s = .slice sp sLen sCap)
    (g off : Nat) (cur : List Value) (t : TypeId) (hg : w.heap[g]? = some (.cells cur.toArray t (0, 0))) (cs : List Value) (hn : cs.length = Nat.min sLen dLen)
    (hpos : 0 < cs.length → dp = some ⟨g, off, none⟩ ∧ ∃ ad, sp = some ad ∧ ∀ j v, cs[j]? = some v → w.cell? (ad.add j) = some v)
    (hfit : off + cs.length ≤ cur.length) (h1 : ∀ v ∈ cs, v.oneCell' = true)
    (h : ∀ w', Hid (w'.heap[g]? = some (.cells (splice cur off cs).toArray t (0, 0))) → But w.heap.size g w w' → wpList P ops Q rest (a.put o.dst (goInt cs.length)) w') :
    wpList P ops Q (o :: rest) a w := by
  by_cases h0 : cs.length = 0
  · obtain rfl : cs = [] := List.eq_nil_of_length_eq_zero h0
    refine wpList_copy_nothing hgd d s dT sT ho elem hu hsz dp sp dLen dCap sLen sCap hd hs (by simpa using hn.symm) ?_
    exact h w (show _ = _ by simpa [splice] using hg) (But.refl _ _ _)
  · obtain ⟨rfl, ad, rfl, hsrc⟩ := hpos (by omega)
    refine wpList_copy_own hgd d s dT sT ho elem hu hsz g off dLen dCap ad sLen sCap hd hs cur.toArray t hg cs hn hsrc (by simpa using hfit) h1 ?_
    exact h _ (show _ = _ by simpa [splice] using setRow_heap w g _ _ t _ hg) (but_setRow w g _)
theorem Tryd.size5 : (Tryd.prog.info? 5).map (·.size) = some 1 := by kernel_rfl
end Go.Proofs.YtjmdkgjfcfnbiaaDoor
