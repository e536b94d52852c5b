/- What the functions of the pen come to, one contract each (the program's functions 9 to 12, 24, 25). -/
import Derived.Test.YtdcieknblahoeaaOwn
import Derived.Test.YtdcieknblahoeaaNb
import Derived.Deep.RegionLaw
import Derived.WalkSmall
namespace Go.Proofs.Ytdcieknblahoeaa
open Go.RowKit

/-- A pen at block pb that wrote l: its sheet, and what stands there, lie from block B on. -/
def PenAt (w : World) (B pb : Nat) (l : List UInt8) : Prop :=
  (w.heap[pb]? = some (.cells #[.pointer none, .int .i64 0] 29 (0, 0)) ∧ l = []) ∨
  ∃ sb v, w.heap[pb]? = some (.cells #[.pointer (some ⟨sb, 0, none⟩), .int .i64 (l.length : Nat)] 29 (0, 0)) ∧ w.heap[sb]? = some (.cells #[v] 55 (0, 0)) ∧ B ≤ sb ∧ Own w B v l

theorem Own.apart {w : World} {B b : Nat} {v : Value} {l : List UInt8} {cs : Array Value} {t : TypeId} (h : Own w B v l) (hb : w.heap[b]? = some (.cells cs t (0, 0))) (ht : t ≠ 5) : v.ownBlock ≠ some b := by
  rcases h.2 with ⟨rfl, _⟩ | ⟨g, cap, cur, rfl, _, hh, _⟩
  · intro e; cases e
  · intro e
    simp [Value.ownBlock] at e
    subst e
    rw [hh] at hb
    simp at hb
    exact ht hb.2.symm

theorem PenAt.store {w1 : World} {B pb sb M c' : Nat} {a' : Option Addr} {x y : Value} {r : List UInt8} {z : Int} (hp1 : w1.heap[pb]? = some (.cells #[.pointer (some ⟨sb, 0, none⟩), x] 29 (0, 0))) (hs1 : w1.heap[sb]? = some (.cells #[y] 55 (0, 0)))
    (hB : B ≤ sb) (ho : Own w1 B (.slice a' M c') r) (hz : z = (r.length : Nat)) : PenAt ((w1.setCell ⟨sb, 0, none⟩ (.slice a' M c')).setCell ⟨pb, 1, none⟩ (.int .i64 z)) B pb r := by
  subst hz
  have hne : sb ≠ pb := fun e => by subst e; rw [hp1] at hs1; simp at hs1
  have hpa := ho.apart hp1 (by decide)
  have hsa := ho.apart hs1 (by decide)
  refine .inr ⟨sb, _, two_set1 ((Below.heap_setCell _ _ _ _ (Ne.symm hne)).trans hp1), (Below.heap_setCell _ _ _ _ hne).trans (one_setCell hs1), hB, ?_⟩
  exact ownsRow_setCell_other (ownsRow_setCell_other ho hsa _) hpa _
theorem Own.lt {w : World} {B : Nat} {v : Value} {l : List UInt8} (h : Own w B v l) : ∀ k, v.ownBlock = some k → B ≤ k := fun k e => (World.ownsRow.lt h k e).1

theorem PenAt.lt {w : World} {B pb : Nat} {l : List UInt8} (h : PenAt w B pb l) : pb < w.heap.size := by
  rcases h with ⟨h, _⟩ | ⟨sb, v, h, _⟩
  · exact lt_of_block h
  · exact lt_of_block h
theorem Own.below {w w' : World} {B : Nat} {v : Value} {l : List UInt8} (h : Own w B v l) (hb : Below w.heap.size w w') : Own w' B v l :=
  World.ownsRow.kept h (row := none) ⟨hb.os, hb.tape, hb.output, hb.size, fun k hk _ => hb.block k hk⟩ (by cases h' : v.ownBlock <;> simp)
theorem PenAt.below {w w' : World} {B pb : Nat} {l : List UInt8} (h : PenAt w B pb l) (_hB : B ≤ w.heap.size) (hb : Below w.heap.size w w') : PenAt w' B pb l := by
  rcases h with ⟨h, h'⟩ | ⟨sb, v, h1, h2, h3, h4⟩
  · exact .inl ⟨(hb.block _ (lt_of_block h)).trans h, h'⟩
  · exact .inr ⟨sb, v, (hb.block _ (lt_of_block h1)).trans h1, (hb.block _ (lt_of_block h2)).trans h2, h3, h4.below hb⟩

set_option maxHeartbeats 800000 in
theorem write_on {B pb sb : Nat} {v : Value} {l q : List UInt8} {a : Option Addr} {m c : Nat} {w : World} (hp : w.heap[pb]? = some (.cells #[.pointer (some ⟨sb, 0, none⟩), .int .i64 (l.length : Nat)] 29 (0, 0))) (hs : w.heap[sb]? = some (.cells #[v] 55 (0, 0))) (hB : B ≤ sb) (ho : Own w B v l)
    (hq : Row w a m c q) (hm : l.length + m ≤ 140737488355328) :
    Calls Try.prog 25 #[.pointer (some ⟨pb, 0, none⟩), .slice a m c] w fun r w' => r = .returned (.pointer (some ⟨pb, 0, none⟩)) ∧ PenAt w' B pb (l ++ q) ∧ But B pb w w' := by
  have hbz : B ≤ w.heap.size := by have := lt_of_block hs; omega
  obtain ⟨ao, cp, rfl, _⟩ := ho.shape
  have c0 := two_cell0 hp
  have c1 := two_cell1 hp
  have f1 := two_free1 hp
  have s0 := cell_of_one hs
  have fs := free_of_one hs
  obtain ⟨i0, hi, hz0, hz1, hz2⟩ := info_parts Try.info5
  have HQ := Lib.hid hq
  have HI := Lib.hid hi
  obtain ⟨N, hN⟩ : ∃ N, N = l.length := ⟨_, rfl⟩
  rw [← hN] at c1 s0 hm ho hp hs
  have HO := Lib.hid ho
  have HP := Lib.hid hp
  have HS := Lib.hid hs
  have hpa : some pb ≠ (Value.slice ao N cp).ownBlock := Ne.symm (ho.apart hp (by decide))
  have hsa : some sb ≠ (Value.slice ao N cp).ownBlock := Ne.symm (ho.apart hs (by decide))
  have hpl := lt_of_block hp
  have hsp : (⟨sb, 0, none⟩ : Addr) ≠ ⟨pb, 0, none⟩ := fun e => by simp at e; subst e; rw [hp] at hs; simp at hs
  have hsl := lt_of_block hs
  have HN := Lib.hid hN
  clear hp hs ho hq hi hN
  go_enter Try.func25, Try.ntmps25
  go_wp2_with fail
  go_quiet (fail)
  go_wp2_with fail
  go_region_law
    ((refine step_append_row (by rfl) (.tmp 44) (.tmp 45) 23 (by rfl) B i0 Try.underlying23 HI.out hz0 hz1 hz2 (.slice ao N cp) l N HN.out.symm (by rfl) HO.out a m c q (by rfl) HQ.out hm hbz ?_; intro a' c' w1 hown1 hgrow1; have hp1 : w1.heap[pb]? = some (.cells #[.pointer (some ⟨sb, 0, none⟩), .int .i64 (N : Nat)] 29 (0, 0)) := (hgrow1.block pb hpl hpa).trans HP.out; have hs1 : w1.heap[sb]? = some (.cells #[.slice ao N cp] 55 (0, 0)) := (hgrow1.block sb hsl hsa).trans HS.out; have k0 := two_cell0 hp1; have k1 := two_cell1 hp1; have g1 := two_free1 hp1; have s1 := cell_of_one hs1; have t1 := free_of_one hs1; have HP1 := Lib.hid hp1; have HS1 := Lib.hid hs1; have HO1 := Lib.hid hown1; have HG1 := Lib.hid hgrow1; clear hp1 hs1 hown1 hgrow1))
  all_goals go_wp2
  all_goals go_ret
  all_goals
    have hb1 : Below B w w1 := Below.grown (w := w.drewN (nq + 1)) (below_drewN (Below.refl B w) _) HG1.out hbz HO.out.lt
    exact ⟨rfl, PenAt.store HP1.out HS1.out hB HO1.out (by rw [List.length_append, ← HN.out, HQ.out.1]; omega), ((But.of hb1).setCell ⟨sb, 0, none⟩ (.inr hB) _).setCell ⟨pb, 1, none⟩ (.inl rfl) _⟩
theorem write_nil (v : Value) (w : World) : Calls Try.prog 25 #[.pointer none, v] w fun r w' => r = .returned (.pointer none) ∧ w = w' := by
  go_enter Try.func25, Try.ntmps25
  go_wp2
  go_ret
  exact ⟨rfl, rfl⟩
theorem bytes_nil (w : World) : Calls Try.prog 12 #[.pointer none] w fun r w' => r = .returned (.slice none 0 0) ∧ w = w' := by
  go_enter Try.func12, Try.ntmps12
  go_wp2
  go_ret
  exact ⟨rfl, rfl⟩
theorem bytes_none {pb : Nat} {v : Value} {w : World} (h : w.heap[pb]? = some (.cells #[v, .int .i64 0] 29 (0, 0))) : Calls Try.prog 12 #[.pointer (some ⟨pb, 0, none⟩)] w fun r w' => r = .returned (.slice none 0 0) ∧ w = w' := by
  have c1 := two_cell1 h
  clear h
  go_enter Try.func12, Try.ntmps12
  go_wp2
  go_ret
  exact ⟨rfl, rfl⟩

set_option maxHeartbeats 800000 in
theorem write_fresh {B pb : Nat} {q : List UInt8} {a : Option Addr} {m c : Nat} {w : World} (hp : w.heap[pb]? = some (.cells #[.pointer none, .int .i64 0] 29 (0, 0))) (hbz : B ≤ w.heap.size)
    (hq : Row w a m c q) (hm : m ≤ 140737488355328) :
    Calls Try.prog 25 #[.pointer (some ⟨pb, 0, none⟩), .slice a m c] w fun r w' => r = .returned (.pointer (some ⟨pb, 0, none⟩)) ∧ PenAt w' B pb q ∧ But B pb w w' := by
  have c0 := two_cell0 hp
  have c1 := two_cell1 hp
  have f0 := two_free0 hp
  have f1 := two_free1 hp
  have hpl := lt_of_block hp
  have hpn : NoBytes w pb := noBytes_two hp (fun _ h => by cases h) (fun _ h => by cases h)
  obtain ⟨i0, hi, hz0, hz1, hz2⟩ := info_parts Try.info5
  have HP := Lib.hid hp
  have HQ := Lib.hid hq
  have HI := Lib.hid hi
  have HPN := Lib.hid hpn
  clear hp hq hi hpn
  go_enter Try.func25, Try.ntmps25
  go_wp2_with fail
  go_quiet (fail)
  clear c0 c1 f0 f1 hpl
  have hb0 : Below B w (w.drewN nq) := below_drewN (Below.refl B w) _
  have hp0 : (w.drewN nq).heap[pb]? = some (.cells #[.pointer none, .int .i64 0] 29 (0, 0)) := HP.out
  have hbz0 : B ≤ (w.drewN nq).heap.size := hbz
  have hq0 : Row (w.drewN nq) a m c q := HQ.out
  have hn0 : NoBytes (w.drewN nq) pb := HPN.out
  revert hb0 hp0 hbz0 hq0 hn0
  generalize w.drewN nq = w0
  intro hb0 hp0 hbz0 hq0 hn0
  have c0 := two_cell0 hp0
  have c1 := two_cell1 hp0
  have f0 := two_free0 hp0
  have f1 := two_free1 hp0
  have hpl := lt_of_block hp0
  have HB0 := Lib.hid hb0
  have HP0 := Lib.hid hp0
  have HQ0 := Lib.hid hq0
  have HN0 := Lib.hid hn0
  clear hb0 hp0 hq0 hn0
  go_wp2_with (go_at_call 12; refine (bytes_none HP0.out).mono ?_; rintro r w' ⟨rfl, rfl⟩)
  have h1 : ((w0.setCell ⟨pb, 0, none⟩ (.pointer (some ⟨w0.heap.size, 0, none⟩))).alloc (.cells #[.slice none 0 0] 55)).heap[pb]? = some (.cells #[.pointer (some ⟨w0.heap.size, 0, none⟩), .int .i64 0] 29 (0, 0)) :=
    (Below.heap_alloc _ _ _ (by simpa using hpl)).trans (two_set0 HP0.out)
  have h2 : ((w0.setCell ⟨pb, 0, none⟩ (.pointer (some ⟨w0.heap.size, 0, none⟩))).alloc (.cells #[.slice none 0 0] 55)).heap[w0.heap.size]? = some (.cells #[.slice none 0 0] 55 (0, 0)) := by
    have := heap_alloc_new (w0.setCell ⟨pb, 0, none⟩ (.pointer (some ⟨w0.heap.size, 0, none⟩))) (.cells #[.slice none 0 0] 55)
    simpa using this
  have h3 : But w0.heap.size pb w0 ((w0.setCell ⟨pb, 0, none⟩ (.pointer (some ⟨w0.heap.size, 0, none⟩))).alloc (.cells #[.slice none 0 0] 55)) :=
    ((But.refl _ pb _).setCell ⟨pb, 0, none⟩ (.inl rfl) _).alloc (by simp) _
  have h4 : Row ((w0.setCell ⟨pb, 0, none⟩ (.pointer (some ⟨w0.heap.size, 0, none⟩))).alloc (.cells #[.slice none 0 0] 55)) a m c q := HQ0.out.but h3 HN0.out
  have h5 : But B pb w ((w0.setCell ⟨pb, 0, none⟩ (.pointer (some ⟨w0.heap.size, 0, none⟩))).alloc (.cells #[.slice none 0 0] 55)) := (But.of HB0.out).trans (h3.mono hbz0)
  clear h3
  revert h1 h2 h4 h5
  generalize ((w0.setCell ⟨pb, 0, none⟩ (.pointer (some ⟨w0.heap.size, 0, none⟩))).alloc (.cells #[.slice none 0 0] 55)) = w2
  revert hbz0
  generalize w0.heap.size = sb
  intro hB hp hs hq hb2
  clear c0 c1 f0 f1 hpl
  have c0 := two_cell0 hp
  have c1 := two_cell1 hp
  have f1 := two_free1 hp
  have s0 := cell_of_one hs
  have fs := free_of_one hs
  have ho : Own w2 B (.slice none 0 0) [] := World.ownsRow_nil _ _ _ _
  have hpa : some pb ≠ (Value.slice none 0 0).ownBlock := fun e => by cases e
  have hsa : some sb ≠ (Value.slice none 0 0).ownBlock := fun e => by cases e
  have hpl := lt_of_block hp
  have hsl := lt_of_block hs
  have hsp : (⟨sb, 0, none⟩ : Addr) ≠ ⟨pb, 0, none⟩ := fun e => by simp at e; subst e; rw [hp] at hs; simp at hs
  have hbz2 : B ≤ w2.heap.size := by omega
  have hm0 : 0 + m ≤ 140737488355328 := by omega
  have HPP := Lib.hid hp
  have HS := Lib.hid hs
  have HQQ := Lib.hid hq
  have HO := Lib.hid ho
  have HB2 := Lib.hid hb2
  clear hp hs hq ho hb2
  go_region_law
    ((refine step_append_row (by rfl) (.tmp 44) (.tmp 45) 23 (by rfl) B i0 Try.underlying23 HI.out hz0 hz1 hz2 (.slice none 0 0) [] 0 rfl (by rfl) HO.out a m c q (by rfl) HQQ.out hm0 hbz2 ?_; intro a' c' w1 hown1 hgrow1; have hp1 : w1.heap[pb]? = some (.cells #[.pointer (some ⟨sb, 0, none⟩), .int .i64 0] 29 (0, 0)) := (hgrow1.block pb hpl hpa).trans HPP.out; have hs1 : w1.heap[sb]? = some (.cells #[.slice none 0 0] 55 (0, 0)) := (hgrow1.block sb hsl hsa).trans HS.out; have k0 := two_cell0 hp1; have k1 := two_cell1 hp1; have g1 := two_free1 hp1; have s1 := cell_of_one hs1; have t1 := free_of_one hs1; have HP1 := Lib.hid hp1; have HS1 := Lib.hid hs1; have HO1 := Lib.hid hown1; have HG1 := Lib.hid hgrow1; clear hp1 hs1 hown1 hgrow1))
  all_goals go_wp2
  all_goals go_ret
  all_goals
    have hb1 : Below B w2 w1 := Below.grown (w := w2.drew) ((Below.refl B w2).drew) HG1.out hbz2 HO.out.lt
    exact ⟨rfl, PenAt.store HP1.out HS1.out hB (by simpa using HO1.out) (by rw [HQQ.out.1]), HB2.out.trans (((But.of hb1).setCell ⟨sb, 0, none⟩ (.inr hB) _).setCell ⟨pb, 1, none⟩ (.inl rfl) _)⟩
theorem write_any {B pb : Nat} {l q : List UInt8} {a : Option Addr} {m c : Nat} {w : World} (hp : PenAt w B pb l) (hbz : B ≤ w.heap.size) (hq : Row w a m c q) (hm : l.length + m ≤ 140737488355328) :
    Calls Try.prog 25 #[.pointer (some ⟨pb, 0, none⟩), .slice a m c] w fun r w' => r = .returned (.pointer (some ⟨pb, 0, none⟩)) ∧ PenAt w' B pb (l ++ q) ∧ But B pb w w' := by
  rcases hp with ⟨h, rfl⟩ | ⟨sb, v, h1, h2, h3, h4⟩
  · exact write_fresh h hbz hq (by simpa using hm)
  · exact write_on h1 h2 h3 h4 hq hm
/-- All that the pen wrote is told, in a slice of the call's own. -/
theorem bytes_some {B pb sb : Nat} {v : Value} {l : List UInt8} {w : World} (hp : w.heap[pb]? = some (.cells #[.pointer (some ⟨sb, 0, none⟩), .int .i64 (l.length : Nat)] 29 (0, 0))) (hs : w.heap[sb]? = some (.cells #[v] 55 (0, 0)))
    (ho : Own w B v l) (h0 : 0 < l.length) (hm : l.length ≤ 140737488355328) :
    Calls Try.prog 12 #[.pointer (some ⟨pb, 0, none⟩)] w fun r w' => ∃ n c, r = .returned (.slice (some ⟨w.heap.size, 0, none⟩) n c) ∧ Row w' (some ⟨w.heap.size, 0, none⟩) n c l ∧ Below w.heap.size w w' := by
  obtain ⟨ao, cp, rfl, _⟩ := ho.shape
  have hrow := ho.row
  have hpl := lt_of_block hp
  have hsl := lt_of_block hs
  obtain ⟨N, hN⟩ : ∃ N, N = l.length := ⟨_, rfl⟩
  rw [← hN] at hp hs h0 hm hrow
  have c0 := two_cell0 hp
  have c1 := two_cell1 hp
  have s0 := cell_of_one hs
  have hne : ((N : Int) == 0) = false := by simp; omega
  have HN := Lib.hid hN
  have HROW := Lib.hid hrow
  clear hp hs ho hN hrow
  obtain ⟨i0, hi, hz0, hz1, hz2⟩ := info_parts Try.info5
  obtain ⟨cs, hcs⟩ : ∃ cs, cs = cellsOf l := ⟨_, rfl⟩
  have hcl : cs.length = N := by rw [hcs, cellsOf, List.length_map]; exact HN.out.symm
  have h1c : ∀ v ∈ cs, v.oneCell' = true := by rw [hcs]; exact cellsOf_one _
  have HCL := Lib.hid hcl
  have HCS := Lib.hid hcs
  have H1C := Lib.hid h1c
  clear hcl hcs h1c
  go_enter Try.func12, Try.ntmps12
  go_wp2_with (at_make; refine wpList_make_full _ rfl (.tmp 16) (.tmp 16) 23 rfl w.heap.size 5 i0 (.int .u8 0) 1 Try.underlying23 hi hz0 hz1 .i64 .i64 _ _ N rfl rfl rfl rfl ?_ ?_ ?_ ?_)
  · rw [hz2]; omega
  · unfold maxLen; omega
  · exact Nat.le_refl _
  · intro w1 hown hgrow
    obtain ⟨cur, hcur, hcurl, _⟩ := own_full hown
    have hb1 : Below w.heap.size w w1 := (Below.refl _ _).grown hgrow (Nat.le_refl _) (fun k h => by cases h)
    have k0 : w1.cell? ⟨pb, 0, none⟩ = some (.pointer (some ⟨sb, 0, none⟩)) := (hb1.cell (p := ⟨pb, 0, none⟩) hpl).trans c0
    have k2 : w1.cell? ⟨sb, 0, none⟩ = some (.slice ao N cp) := (hb1.cell (p := ⟨sb, 0, none⟩) hsl).trans s0
    have HCUR := Lib.hid hcur
    have HCURL := Lib.hid hcurl
    clear hown hgrow hcur hcurl c0 c1 s0
    go_wp2_with (with_reducible refine wpList_copy_splice rfl (.tmp 18) (.tmp 25) 23 23 rfl 5 Try.underlying23 Try.size5 _ _ N N N cp rfl rfl w.heap.size 0 cur 5 HCUR.out cs ?_ ?_ ?_ ?_ w.heap.size w hb1 (Nat.le_refl _) ?_)
    · rw [HCL.out]; show N = min N N; omega
    · intro _
      obtain ⟨b, off, rfl, hlt', hcell⟩ := HROW.out.2.2.2.2 h0
      refine ⟨_, rfl, fun j v hj => ?_⟩
      have hjn : j < N := by
        have := (List.getElem?_eq_some_iff.1 hj).1
        rw [HCL.out] at this
        exact this
      rw [HCS.out, cellsOf_get (by rw [← HN.out]; omega)] at hj
      have e1 : (⟨b, off, none⟩ : Addr).add j = ⟨b, off + j, none⟩ := by simp [Addr.add]
      rw [e1, hb1.cell (p := ⟨b, off + j, none⟩) hlt', hcell j (by omega), ← hj]
    · rw [HCL.out, HCURL.out]; omega
    · exact H1C.out
    · intro w2 hh2 hb2
      have HRES : Hid (Row w2 (some ⟨w.heap.size, 0, none⟩) N N l) := by
        refine row_new HN.out.symm (Nat.le_refl _) (by unfold maxLen; omega) _ 5 hh2.out (fun j hj => ?_)
        have hs : splice cur 0 cs = cs := by
          have e1 := HCL.out
          have e2 := HCURL.out
          simp [splice]; omega
        rw [hs, HCS.out]
        exact cellsOf_get (by rw [← HN.out]; omega)
      have HB2 := Lib.hid hb2
      clear hb1 hb2
      go_wp2
      go_ret
      exact ⟨N, N, rfl, HRES.out, HB2.out⟩
theorem bytes_any {B pb : Nat} {l : List UInt8} {w : World} (hp : PenAt w B pb l) (hm : l.length ≤ 140737488355328) :
    Calls Try.prog 12 #[.pointer (some ⟨pb, 0, none⟩)] w fun r w' => ∃ a n c, r = .returned (.slice a n c) ∧ Row w' a n c l ∧ (∀ x, a = some x → w.heap.size ≤ x.block) ∧ Below w.heap.size w w' := by
  rcases hp with ⟨h, rfl⟩ | ⟨sb, v, h1, h2, h3, h4⟩
  · exact (bytes_none h).mono fun r w' ⟨e1, e2⟩ => ⟨none, 0, 0, e1, Row.nil w', fun x e => (by cases e), by rw [e2]; exact Below.refl _ _⟩
  · by_cases h0 : 0 < l.length
    · exact (bytes_some h1 h2 h4 h0 hm).mono fun r w' ⟨n, c, e1, e2, e3⟩ => ⟨_, n, c, e1, e2, fun x e => (by cases e; exact Nat.le_refl _), e3⟩
    · obtain rfl : l = [] := List.eq_nil_of_length_eq_zero (by omega)
      exact (bytes_none h1).mono fun r w' ⟨e1, e2⟩ => ⟨none, 0, 0, e1, Row.nil w', fun x e => (by cases e), by rw [e2]; exact Below.refl _ _⟩
/-- A new block of one byte. -/
theorem row_one (w : World) (x : Nat) (z : Int) (hx : x < 256) (hz : z = (x : Int)) : Row (w.alloc (.cells #[.int .u8 z] 5)) (some ⟨w.heap.size, 0, none⟩) 1 1 [bt x] := by
  refine row_new rfl (Nat.le_refl _) (by unfold maxLen; omega) [.int .u8 z] 5 (heap_alloc_new w _) (fun j hj => ?_)
  obtain rfl : j = 0 := by omega
  have e : ((([bt x].getD 0 0).toNat : Nat) : Int) = z := by rw [hz]; exact byte_val x hx
  rw [e]
  rfl

/-- An 'append' within the law's own number, round or end: the same on both ways. -/
theorem numB_neg {z : Int} (h : z < 0) : numB z = nb 8 0 := by
  unfold numB
  rw [show z.toNat = 0 by omega]

set_option maxHeartbeats 1600000 in
/-- The law's own 'number'. -/
theorem lawnumber_any (z : Int) (w : World) (hz63 : z ≤ 9223372036854775807) : Calls Try.prog 8 #[.int .i64 z] w fun r w' => ∃ a k c, r = .returned (.slice a k c) ∧ Own w' w.heap.size (.slice a k c) (numB z) ∧ (numB z).length = k ∧ Below w.heap.size w w' := by
  obtain ⟨i0, hi, hz0, hz1, hz2⟩ := info_parts Try.info5
  obtain ⟨n, hzn, hnb, hn⟩ : ∃ n : Nat, ((z < 0 ∧ n = 0) ∨ z = (n : Int)) ∧ numB z = nb 8 n ∧ n ≤ 9223372036854775807 := by
    by_cases h : z < 0
    · exact ⟨0, .inl ⟨h, rfl⟩, numB_neg h, by omega⟩
    · exact ⟨z.toNat, .inr (by omega), rfl, by omega⟩
  rw [hnb]
  clear hnb
  rcases hzn with ⟨hneg, rfl⟩ | rfl
  case' inl => have hd : decide (z < 0) = true := by simpa using hneg
  case' inr => have hd : decide ((n : Int) < 0) = false := by simp
  case' inl => obtain ⟨n, hn0⟩ : ∃ n : Nat, n = 0 := ⟨_, rfl⟩
  case' inl => have hstart : Value.int .i64 0 = Value.int .i64 (n : Int) := by rw [hn0]; rfl
  case' inl => rw [← hn0] at hn ⊢
  case' inl => have HST := Lib.hid hstart
  case' inl => clear hstart hn0 hneg
  case' inr => have HST : Hid (Value.int .i64 (n : Int) = Value.int .i64 (n : Int)) := rfl
  all_goals
    go_enter Try.func8, Try.ntmps8
    go_wp2
    go_loopw [0, 3] (fun s v wr => ∃ (r k c : Nat) (acc : List UInt8) (a : Option Addr), s = .int .i64 r ∧ v = .slice a k c ∧ Own wr w.heap.size (.slice a k c) acc ∧ acc.length = k ∧ Rest n acc r ∧ r ≤ 9223372036854775807 ∧ Below w.heap.size w wr) (fun s _ _ => (intOf s).toNat)
    case atStart => exact ⟨n, 0, 0, [], none, (by first | rfl | exact HST.out), rfl, World.ownsRow_nil _ _ _ _, rfl, rest_start n hn, hn, Below.refl _ _⟩
    case round =>
      obtain ⟨r, k, c, acc, a, rfl, rfl, hown, hk, hrest, hr63, hbel⟩ := hrel
      have hkl : k ≤ 8 := by rw [← hk]; exact rest_len hrest
      have HOWN := Lib.hid hown
      have HK := Lib.hid hk
      have HREST := Lib.hid hrest
      have HBEL := Lib.hid hbel
      have HI := Lib.hid hi
      have hbz := hbel.size
      clear hown hk hrest hbel hi hd
      by_cases hr : 128 ≤ r
      · have hgt : decide ((127 : Int) < (r : Int)) = true := by simp; omega
        have hx : r % 128 + 128 < 256 := by omega
        go_wp2_with (at_builtin; refine wpList_append_row _ rfl (.tmp 8) (.tmp 13) 23 rfl w.heap.size i0 Try.underlying23 HI.out hz0 hz1 hz2 _ acc k HK.out rfl (HOWN.out.alloc _) _ 1 1 [bt (r % 128 + 128)] rfl (row_one wr _ _ hx (by omega)) (by omega) (by simp; omega) ?_)
        intro a' c' w1 hown1 hgrow1
        have hbel1 : Below w.heap.size w w1 := (HBEL.out.alloc hbz _).grown hgrow1 (by simp; omega) HOWN.out.lt
        have HOWN1 := Lib.hid hown1
        have HBEL1 := Lib.hid hbel1
        clear hown1 hgrow1 hbel1
        go_wp2
        go_roundw
        case rel => exact ⟨r / 128, k + 1, c', _, a', by go_num, rfl, HOWN1.out, by simp [HK.out], rest_step HREST.out hr, by omega, HBEL1.out⟩
        case measure => simp [intOf]; omega
      · have hgt : decide ((127 : Int) < (r : Int)) = false := by simp; omega
        have hx : r < 256 := by omega
        go_wp2_with (at_builtin; refine wpList_append_row _ rfl (.tmp 17) (.tmp 20) 23 rfl w.heap.size i0 Try.underlying23 HI.out hz0 hz1 hz2 _ acc k HK.out rfl (HOWN.out.alloc _) _ 1 1 [bt r] rfl (row_one wr _ _ hx (by omega)) (by omega) (by simp; omega) ?_)
        intro a' c' w1 hown1 hgrow1
        have hbel1 : Below w.heap.size w w1 := (HBEL.out.alloc hbz _).grown hgrow1 (by simp; omega) HOWN.out.lt
        rw [rest_end HREST.out (by omega)] at hown1
        have hkn : (nb 8 n).length = k + 1 := by rw [← rest_end HREST.out (by omega)]; simp [HK.out]
        have HOWN1 := Lib.hid hown1
        have HBEL1 := Lib.hid hbel1
        have HKN := Lib.hid hkn
        clear hown1 hgrow1 hbel1 hkn
        go_wp2
        go_ret
        exact ⟨_, _, _, rfl, HOWN1.out, HKN.out, HBEL1.out⟩
set_option maxHeartbeats 1600000 in
/-- A number is written by a pen, nil or not. -/
theorem pnum_any (z : Int) (w : World) (p : Option Addr) (R : Option Addr → List UInt8 → World → World → Prop) (hz63 : z ≤ 9223372036854775807)
    (hw : ∀ (w1 : World) (a : Option Addr) (k c : Nat), Below w.heap.size w w1 → Row w1 a k c (numB z) → (∀ x, a = some x → w.heap.size ≤ x.block) →
      Calls Try.prog 25 #[.pointer p, .slice a k c] w1 fun r w' => r = .returned (.pointer p) ∧ R p (numB z) w w') :
    Calls Try.prog 24 #[.pointer p, .int .i64 z] w fun r w' => r = .returned (.pointer p) ∧ R p (numB z) w w' := by
  obtain ⟨i0, hi, hz0, hz1, hz2⟩ := info_parts Try.info5
  have HW := Lib.hid hw
  clear hw
  obtain ⟨n, hzn, hnb, hn⟩ : ∃ n : Nat, ((z < 0 ∧ n = 0) ∨ z = (n : Int)) ∧ numB z = nb 8 n ∧ n ≤ 9223372036854775807 := by
    by_cases h : z < 0
    · exact ⟨0, .inl ⟨h, rfl⟩, numB_neg h, by omega⟩
    · exact ⟨z.toNat, .inr (by omega), rfl, by omega⟩
  rw [hnb] at HW ⊢
  clear hnb
  rcases hzn with ⟨hneg, rfl⟩ | rfl
  case' inl => obtain ⟨n, hn0⟩ : ∃ n : Nat, n = 0 := ⟨_, rfl⟩
  case' inl => have hstart : Value.int .i64 0 = Value.int .i64 (n : Int) := by rw [hn0]; rfl
  case' inl => rw [← hn0] at hn HW ⊢
  case' inl => have HST := Lib.hid hstart
  case' inl => clear hstart hn0
  case' inr => have HST : Hid (Value.int .i64 (n : Int) = Value.int .i64 (n : Int)) := rfl
  all_goals
    go_enter Try.func24, Try.ntmps24
    go_wp2_with (at_make; refine wpList_make_own _ rfl _ _ 23 rfl w.heap.size 5 i0 (.int .u8 0) 1 Try.underlying23 hi hz0 hz1 .i64 .i64 9 9 rfl rfl rfl (by rw [hz2]; omega) (by unfold maxLen; omega) (Nat.le_refl _) ?_; intro w1 hown1 hgrow1; have HOWN1 : Hid (Own w1 w.heap.size (.slice (some ⟨w.heap.size, 0, none⟩) 0 9) []) := hown1; have HBEL1 : Hid (Below w.heap.size w w1) := (Below.refl _ _).grown hgrow1 (Nat.le_refl _) (fun k h => by cases h); clear hown1 hgrow1)
    go_loopw [6, 5] (fun s v wr => ∃ (r k c : Nat) (acc : List UInt8) (a : Option Addr), s = .int .i64 r ∧ v = .slice a k c ∧ Own wr w.heap.size (.slice a k c) acc ∧ acc.length = k ∧ Rest n acc r ∧ r ≤ 9223372036854775807 ∧ Below w.heap.size w wr) (fun s _ _ => (intOf s).toNat)
    case atStart => exact ⟨n, 0, 9, [], _, (by first | rfl | exact HST.out), rfl, HOWN1.out, rfl, rest_start n hn, hn, HBEL1.out⟩
    case round =>
      obtain ⟨r, k, c, acc, a, rfl, rfl, hown, hk, hrest, hr63, hbel⟩ := hrel
      have hkl : k ≤ 8 := by rw [← hk]; exact rest_len hrest
      have HOWN := Lib.hid hown
      have HK := Lib.hid hk
      have HREST := Lib.hid hrest
      have HBEL := Lib.hid hbel
      have HI := Lib.hid hi
      have hbz := hbel.size
      clear hown hk hrest hbel hi
      by_cases hr : 128 ≤ r
      · have hgt : decide ((128 : Int) ≤ (r : Int)) = true := by simp; omega
        have hx : r % 128 + 128 < 256 := by omega
        go_wp2_with (at_builtin; refine wpList_append_row _ rfl (.tmp 12) (.tmp 17) 23 rfl w.heap.size i0 Try.underlying23 HI.out hz0 hz1 hz2 _ acc k HK.out rfl (HOWN.out.alloc _) _ 1 1 [bt (r % 128 + 128)] rfl (row_one wr _ _ hx (by omega)) (by omega) (by simp; omega) ?_)
        intro a' c' w2 hown2 hgrow2
        have hbel2 : Below w.heap.size w w2 := (HBEL.out.alloc hbz _).grown hgrow2 (by simp; omega) HOWN.out.lt
        have HOWN2 := Lib.hid hown2
        have HBEL2 := Lib.hid hbel2
        clear hown2 hgrow2 hbel2
        go_wp2
        go_roundw
        case rel => exact ⟨r / 128, k + 1, c', _, a', by go_num, rfl, HOWN2.out, by simp [HK.out], rest_step HREST.out hr, by omega, HBEL2.out⟩
        case measure => simp [intOf]; omega
      · have hgt : decide ((128 : Int) ≤ (r : Int)) = false := by simp; omega
        have hx : r < 256 := by omega
        go_wp2_with (at_builtin; refine wpList_append_row _ rfl (.tmp 22) (.tmp 25) 23 rfl w.heap.size i0 Try.underlying23 HI.out hz0 hz1 hz2 _ acc k HK.out rfl (HOWN.out.alloc _) _ 1 1 [bt r] rfl (row_one wr _ _ hx (by omega)) (by omega) (by simp; omega) ?_)
        intro a' c' w2 hown2 hgrow2
        have hbel2 : Below w.heap.size w w2 := (HBEL.out.alloc hbz _).grown hgrow2 (by simp; omega) HOWN.out.lt
        rw [rest_end HREST.out (by omega)] at hown2
        have hrow := hown2.row
        have hfr := hown2.fresh
        have HBEL2 := Lib.hid hbel2
        have HROW2 := Lib.hid hrow
        have HFR := Lib.hid hfr
        clear hown2 hgrow2 hbel2 hrow hfr
        go_wp2_with (go_at_call 25; refine (HW.out _ _ _ _ HBEL2.out HROW2.out HFR.out).mono ?_; rintro e w3 ⟨rfl, hR⟩; have HR := Lib.hid hR; clear hR)
        go_ret
        exact ⟨rfl, HR.out⟩
theorem pnum_nil (z : Int) (w : World) (hz63 : z ≤ 9223372036854775807) : Calls Try.prog 24 #[.pointer none, .int .i64 z] w fun r w' => r = .returned (.pointer none) ∧ Below w.heap.size w w' :=
  pnum_any z w none (fun _ _ w w' => Below w.heap.size w w') hz63 fun w1 a k c hb _ _ => (write_nil _ w1).mono fun r w' ⟨h1, h2⟩ => ⟨h1, by rw [← h2]; exact hb⟩
theorem pnum_at {B pb : Nat} {l : List UInt8} {w : World} (z : Int) (hp : PenAt w B pb l) (hbz : B ≤ w.heap.size) (hm : l.length + 9 ≤ 140737488355328) (hz63 : z ≤ 9223372036854775807) :
    Calls Try.prog 24 #[.pointer (some ⟨pb, 0, none⟩), .int .i64 z] w fun r w' => r = .returned (.pointer (some ⟨pb, 0, none⟩)) ∧ PenAt w' B pb (l ++ numB z) ∧ But B pb w w' := by
  refine pnum_any z w (some ⟨pb, 0, none⟩) (fun _ q w w' => PenAt w' B pb (l ++ q) ∧ But B pb w w') hz63 fun w1 a k c hb hrow _ => ?_
  have hn := numB_len z
  have hk := hrow.1
  exact (write_any (hp.below hbz hb) (Nat.le_trans hbz hb.size) hrow (by omega)).mono fun r w' ⟨h1, h2, h3⟩ => ⟨h1, h2, (But.of (hb.mono hbz)).trans h3⟩
end Go.Proofs.Ytdcieknblahoeaa
