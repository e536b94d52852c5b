/- A text that is newer than the pen's own blocks is written as it is. -/
import Derived.Test.YtacagnoilpfjkaaDoorMany
import Derived.Deep.RegionLaw
import Derived.Deep.RegionHeld3
import Derived.WalkSmall
import Derived.Laws.OwnMore
namespace Go.Proofs.YtacagnoilpfjkaaDoor
open Go.RowKit

set_option maxHeartbeats 800000 in
theorem write_keep {B pb sb : Nat} {v : Value} {l q : List UInt8} {a : Option Addr} {m c : Nat} {w : World} (hp : w.heap[pb]? = some (.cells #[.pointer (some ⟨sb, 0, none⟩), .int .i64 (l.length : Nat)] 45 (0, 0))) (hs : w.heap[sb]? = some (.cells #[v] 81 (0, 0))) (hB : B ≤ sb) (ho : Own w B v l)
    (hq : Row w a m c q) (hm : l.length + m ≤ 140737488355328) :
    Calls Tryd.prog 33 #[.pointer (some ⟨pb, 0, none⟩), .slice a m c] w fun r w' => r = .returned (.pointer (some ⟨pb, 0, none⟩)) ∧ (PenAt w' B pb (l ++ q) ∧ But B pb w w') ∧ ∀ k, k < w.heap.size → k ≠ pb → k ≠ sb → v.ownBlock ≠ some k → w'.heap[k]? = w.heap[k]? := by
  have hbz : B ≤ w.heap.size := by have := lt_of_block hs; omega
  obtain ⟨ao, cp, rfl, _⟩ := ho.shape
  have c0 := two_cell0 hp
  have c1 := two_cell1 hp
  have f1 := two_free1 hp
  have s0 := cell_of_one hs
  have fs := free_of_one hs
  obtain ⟨i0, hi, hz0, hz1, hz2⟩ := info_parts Tryd.info5
  have HQ := Lib.hid hq
  have HI := Lib.hid hi
  obtain ⟨N, hN⟩ : ∃ N, N = l.length := ⟨_, rfl⟩
  rw [← hN] at c1 s0 hm ho hp hs
  have HO := Lib.hid ho
  have HP := Lib.hid hp
  have HS := Lib.hid hs
  have hpa : some pb ≠ (Value.slice ao N cp).ownBlock := Ne.symm (ho.apart hp (by decide))
  have hsa : some sb ≠ (Value.slice ao N cp).ownBlock := Ne.symm (ho.apart hs (by decide))
  have hpl := lt_of_block hp
  have hsp : (⟨sb, 0, none⟩ : Addr) ≠ ⟨pb, 0, none⟩ := fun e => by simp at e; subst e; rw [hp] at hs; simp at hs
  have hsl := lt_of_block hs
  have HN := Lib.hid hN
  clear hp hs ho hq hi hN
  go_enter Tryd.func33, Tryd.ntmps33
  go_wp2_with fail
  go_quiet (fail)
  go_wp2_with fail
  go_region_law
    ((refine step_append_row (by rfl) (.tmp 44) (.tmp 45) 37 (by rfl) B i0 Tryd.underlying37 HI.out hz0 hz1 hz2 (.slice ao N cp) l N HN.out.symm (by rfl) HO.out a m c q (by rfl) HQ.out hm hbz ?_; intro a' c' w1 hown1 hgrow1; have hp1 : w1.heap[pb]? = some (.cells #[.pointer (some ⟨sb, 0, none⟩), .int .i64 (N : Nat)] 45 (0, 0)) := (hgrow1.block pb hpl hpa).trans HP.out; have hs1 : w1.heap[sb]? = some (.cells #[.slice ao N cp] 81 (0, 0)) := (hgrow1.block sb hsl hsa).trans HS.out; have k0 := two_cell0 hp1; have k1 := two_cell1 hp1; have g1 := two_free1 hp1; have s1 := cell_of_one hs1; have t1 := free_of_one hs1; have HP1 := Lib.hid hp1; have HS1 := Lib.hid hs1; have HO1 := Lib.hid hown1; have HG1 := Lib.hid hgrow1; clear hp1 hs1 hown1 hgrow1))
  all_goals go_wp2
  all_goals go_ret
  all_goals
    have hb1 : Below B w w1 := Below.grown (w := w.drewN (nq + 1)) (below_drewN (Below.refl B w) _) HG1.out hbz HO.out.lt
    exact ⟨rfl, ⟨PenAt.store HP1.out HS1.out hB HO1.out (by rw [List.length_append, ← HN.out, HQ.out.1]; omega), ((But.of hb1).setCell ⟨sb, 0, none⟩ (.inr hB) _).setCell ⟨pb, 1, none⟩ (.inl rfl) _⟩,
      fun k h1 h2 h3 h4 => (Below.heap_setCell _ _ _ _ h2).trans ((Below.heap_setCell _ _ _ _ h3).trans (HG1.out.block k h1 (fun e => h4 (by rw [← HN.out]; exact e.symm))))⟩
/-- A block that is none of the pen's. -/
def Safe (w : World) (pb r : Nat) : Prop := r ≠ pb ∧ ∀ sb x v, w.heap[pb]? = some (.cells #[.pointer (some ⟨sb, 0, none⟩), x] 45 (0, 0)) → w.heap[sb]? = some (.cells #[v] 81 (0, 0)) → r ≠ sb ∧ v.ownBlock ≠ some r
theorem PenAt.safe {wp w : World} {B pb r : Nat} {l : List UInt8} (h : PenAt wp B pb l) (hb : Below wp.heap.size wp w) (hr : wp.heap.size ≤ r) : Safe w pb r := by
  refine ⟨by have := h.lt; omega, fun sb x v e1 e2 => ?_⟩
  rcases h with ⟨h, _⟩ | ⟨sb', v', h1, h2, h3, h4⟩
  · rw [hb.block _ (lt_of_block h), h] at e1
    simp at e1
  · rw [hb.block _ (lt_of_block h1), h1] at e1
    simp at e1
    obtain ⟨rfl, _⟩ := e1
    rw [hb.block _ (lt_of_block h2), h2] at e2
    simp at e2
    subst e2
    have hlt := lt_of_block h2
    exact ⟨by omega, fun e => by have := (World.ownsRow.lt h4 _ e).2; omega⟩
theorem pnum_keep {B pb r : Nat} {l : List UInt8} {w : World} (z : Int) (hp : PenAt w B pb l) (h0 : 0 < l.length) (hr : Safe w pb r) (hrl : r < w.heap.size) (hbz : B ≤ w.heap.size) (hm : l.length + 9 ≤ 140737488355328) (hz63 : z ≤ 9223372036854775807) :
    Calls Tryd.prog 32 #[.pointer (some ⟨pb, 0, none⟩), .int .i64 z] w fun e w' => e = .returned (.pointer (some ⟨pb, 0, none⟩)) ∧ (PenAt w' B pb (l ++ numB z) ∧ But B pb w w') ∧ w'.heap[r]? = w.heap[r]? := by
  rcases hp with ⟨_, rfl⟩ | ⟨sb, v, h1, h2, h3, h4⟩
  · simp at h0
  obtain ⟨e1, e2⟩ := hr.2 sb _ v h1 h2
  refine pnum_any z w (some ⟨pb, 0, none⟩) (fun _ q w w' => (PenAt w' B pb (l ++ q) ∧ But B pb w w') ∧ w'.heap[r]? = w.heap[r]?) hz63 fun w1 a k c hb hrow _ => ?_
  have hn := numB_len z
  have hk := hrow.1
  refine (write_keep ((hb.block _ (lt_of_block h1)).trans h1) ((hb.block _ (lt_of_block h2)).trans h2) h3 (h4.below hb) hrow (by omega)).mono fun e w' ⟨g1, ⟨g2, g3⟩, g4⟩ => ⟨g1, ⟨g2, (But.of (hb.mono hbz)).trans g3⟩, ?_⟩
  rw [g4 r (Nat.lt_of_lt_of_le hrl hb.size) hr.1 e1 e2, hb.block _ hrl]
set_option linter.unusedSimpArgs false in
set_option maxHeartbeats 800000 in
theorem ptext_new {a : Option Addr} {n c B pb : Nat} {l q : List UInt8} (w : World) (hq : Row w a n c q) (hp : PenAt w B pb l) (h0 : 0 < l.length) (hbz : B ≤ w.heap.size) (hsafe : ∀ x, a = some x → Safe w pb x.block) (hn0 : 0 < n) (hn : n ≤ 1000000) (hl : l.length ≤ 1000000) :
    Calls Tryd.prog 19 #[.pointer (some ⟨pb, 0, none⟩), .slice a n c] w fun r w' => r = .returned (.pointer (some ⟨pb, 0, none⟩)) ∧ PenAt w' B pb (l ++ (numB (q.length : Nat) ++ q)) ∧ But B pb w w' := by
  have hql := hq.1
  obtain ⟨b, off, rfl, hlt, hcells⟩ := hq.2.2.2.2 hn0
  have hnum : Calls Tryd.prog 32 #[.pointer (some ⟨pb, 0, none⟩), .int .i64 (n : Int)] w fun e w' => e = .returned (.pointer (some ⟨pb, 0, none⟩)) ∧ (PenAt w' B pb (l ++ numB (n : Int)) ∧ But B pb w w') ∧ Row w' (some ⟨b, off, none⟩) n c q :=
    (pnum_keep (n : Int) hp h0 (hsafe _ rfl) hlt hbz (by omega) (by omega)).mono fun e w' ⟨g1, g2, g3⟩ => ⟨g1, g2, hql, hq.2.1, hq.2.2.1, (fun e => by cases e), fun _ => ⟨b, off, rfl, Nat.lt_of_lt_of_le hlt g2.2.size, fun j hj => (World.cell?_of_block (a := ⟨b, off + j, none⟩) g3).trans (hcells j hj)⟩⟩
  have HNUM := Lib.hid hnum
  have HQL := Lib.hid hql
  clear hp hq hql hnum hsafe hcells h0
  go_enter Tryd.func19, Tryd.ntmps19
  go_wp2_with fail
  refine HNUM.out.mono ?_
  rintro r w1 ⟨rfl, ⟨hp1, hb1⟩, hq1⟩
  have HP1 := Lib.hid hp1
  have HB1 := Lib.hid hb1
  have HQ1 := Lib.hid hq1
  have hbz1 : B ≤ w1.heap.size := Nat.le_trans hbz hb1.size
  have HLB : Hid ((l ++ numB (n : Int)).length + n ≤ 140737488355328) := by
    have h1 := numB_len (n : Int)
    show _ ≤ _
    rw [List.length_append]
    omega
  clear hp1 hb1 hq1
  go_wp2_with fail
  refine (write_any HP1.out hbz1 HQ1.out HLB.out).mono ?_
  rintro r w2 ⟨rfl, hp2, hb2⟩
  have HP2 := Lib.hid hp2
  have HB2 := Lib.hid hb2
  clear hp2 hb2
  go_wp2_with fail
  go_ret
  exact ⟨rfl, by rw [HQL.out, ← List.append_assoc]; exact HP2.out, HB1.out.trans HB2.out⟩
/-- A pen writes a text that was made behind all that it wrote. -/
theorem penned_text_new {w0 wp w : World} {pb : Nat} {l q : List UInt8} {a : Option Addr} {n c : Nat} (h : Penned w0 pb l wp) (hb : Below wp.heap.size wp w) (hq : Row w a n c q) (hnew : ∀ x, a = some x → wp.heap.size ≤ x.block) (h0 : 0 < l.length) (hn0 : 0 < n) (hn : n ≤ 1000000) (hl : l.length ≤ 1000000) :
    Calls Tryd.prog 19 #[.pointer (some ⟨pb, 0, none⟩), .slice a n c] w fun r w' => r = .returned (.pointer (some ⟨pb, 0, none⟩)) ∧ Penned w0 pb (l ++ (numB (q.length : Nat) ++ q)) w' :=
  (ptext_new w hq (h.more hb).pen h0 (h.more hb).below.size (fun x e => h.pen.safe hb (hnew x e)) hn0 hn hl).mono fun _ _ ⟨e, h1, h2⟩ => ⟨e, (h.more hb).step h1 h2⟩
end Go.Proofs.YtacagnoilpfjkaaDoor
