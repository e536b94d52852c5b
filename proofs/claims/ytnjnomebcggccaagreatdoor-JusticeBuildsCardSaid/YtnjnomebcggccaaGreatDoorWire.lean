/- Plain lists and worlds for the statements of layer 1: what a slice of bytes holds; numbers in seven bits a byte. No program is named. Worlds for the statements of layer 1: what stays where one block is written and new ones are made; a block of two cells; an eye. No program is named. A number's bytes, as plain lists. No program is named. What the functions of the eye come to, one contract each (the program's functions 13 to 30, 26). What the functions of the pen come to, one contract each (the program's functions 9 to 12, 24, 23). A nil pen writes nothing; bytes as a string. Eye.Sum (function 16): 32 bytes are told; and copies into a row of the call's own. The law's 'step' (function 22): what it does with an eye that has failed, and with one that has not. WireNums, the plain part: a number that is read has no other bytes. WirePuts, the plain part: what is written is read as it was. What a pen that is not nil writes: numbers, a text, a sum. What is read of bytes that were written: texts of any length, sums with whatever behind them. No program is named. What a pen leaves as it was: blocks that are no byte's, sheet's or pen's; and numbers, sums written so. Reading as plain functions of what is left and the error: a number up to another one, numbers, a sum; and what Upto and Sum come to, whatever the error. What Raw and Text tell lies in a new block of bytes; and a text as a plain function of what is left and the error. -/
import Derived.Test.YtnjnomebcggccaaGreatDoorMemory
import Derived.WalkKit
import Derived.OneCell
import Derived.Test.YtnjnomebcggccaaGreatDoorRows
import Derived.WalkSpells
import Derived.WalkLawsBesides
import Derived.BigQuiet
import Derived.Deep.QuietTactic
import Derived.Laws.CopyOwn
import Derived.Deep.RegionLaw
import Derived.Deep.RegionHeld3
import Derived.WalkSmall
import Derived.Laws.OwnMore
import Derived.Laws.BytesArg
import Derived.Deep.RegionHeldLaw
import Derived.Laws.Tables
import Derived.Stop.BytesEq
namespace Go.Proofs.YtnjnomebcggccaaGreatDoor
open Go.RowKit


end Go.Proofs.YtnjnomebcggccaaGreatDoor
namespace Go.Proofs.YtnjnomebcggccaaGreatDoor
open Go.RowKit



/-- A block of two cells. -/
theorem two_cell0 {w : World} {b : Nat} {u v : Value} {t : TypeId} (h : w.heap[b]? = some (.cells #[u, v] t (0, 0))) : w.cell? ⟨b, 0, none⟩ = some u := by simp [World.cell?, h]
theorem two_cell1 {w : World} {b : Nat} {u v : Value} {t : TypeId} (h : w.heap[b]? = some (.cells #[u, v] t (0, 0))) : w.cell? ⟨b, 1, none⟩ = some v := by simp [World.cell?, h]
theorem two_free0 {w : World} {b : Nat} {u v : Value} {t : TypeId} (h : w.heap[b]? = some (.cells #[u, v] t (0, 0))) : w.frozen? ⟨b, 0, none⟩ = false := by simp [World.frozen?, h]
theorem two_free1 {w : World} {b : Nat} {u v : Value} {t : TypeId} (h : w.heap[b]? = some (.cells #[u, v] t (0, 0))) : w.frozen? ⟨b, 1, none⟩ = false := by simp [World.frozen?, h]
theorem two_set0 {w : World} {b : Nat} {u v x : Value} {t : TypeId} (h : w.heap[b]? = some (.cells #[u, v] t (0, 0))) : (w.setCell ⟨b, 0, none⟩ x).heap[b]? = some (.cells #[x, v] t (0, 0)) := by
  rw [heap_setCell_same w b 0 _ t x h]; rfl
theorem two_set1 {w : World} {b : Nat} {u v x : Value} {t : TypeId} (h : w.heap[b]? = some (.cells #[u, v] t (0, 0))) : (w.setCell ⟨b, 1, none⟩ x).heap[b]? = some (.cells #[u, x] t (0, 0)) := by
  rw [heap_setCell_same w b 1 _ t x h]; rfl

/-- A block that holds no byte is no slice's of bytes. -/
def NoBytes (w : World) (p : Nat) : Prop := ∀ off u, w.cell? ⟨p, off, none⟩ ≠ some (.int .u8 u)
theorem noBytes_two {w : World} {b : Nat} {u v : Value} {t : TypeId} (h : w.heap[b]? = some (.cells #[u, v] t (0, 0))) (hu : ∀ n, u ≠ .int .u8 n) (hv : ∀ n, v ≠ .int .u8 n) : NoBytes w b := by
  intro off n hc
  match off, hc with
  | 0, hc => rw [two_cell0 h] at hc; exact hu n (Option.some.inj hc)
  | 1, hc => rw [two_cell1 h] at hc; exact hv n (Option.some.inj hc)
  | k + 2, hc => simp [World.cell?, h] at hc

theorem Row.butN {w w' : World} {p n c : Nat} {a : Option Addr} {l : List UInt8} (h : Row w a n c l) (hb : But w.heap.size p w w') (hp : NoBytes w p) : Row w' a n c l := by
  obtain ⟨h1, h2, h3, h4, h5⟩ := h
  refine ⟨h1, h2, h3, h4, fun h0 => ?_⟩
  obtain ⟨b, off, rfl, hlt, hc⟩ := h5 h0
  have hbp : b ≠ p := fun e => by subst e; exact hp _ _ (hc 0 h0)
  exact ⟨b, off, rfl, Nat.lt_of_lt_of_le hlt hb.size, fun j hj => (hb.cell (a := ⟨b, off + j, none⟩) hlt hbp).trans (hc j hj)⟩


/-- The row of a slice lies in a block of bytes (type 5). -/
def Tag (w : World) (a : Option Addr) (n : Nat) : Prop := 0 < n → ∃ b off cs fr, a = some ⟨b, off, none⟩ ∧ w.heap[b]? = some (.cells cs 5 fr)
theorem Tag.below {w w' : World} {a : Option Addr} {n : Nat} (h : Tag w a n) (hb : Below w.heap.size w w') : Tag w' a n := fun h0 => by
  obtain ⟨b, off, cs, fr, e, hh⟩ := h h0
  exact ⟨b, off, cs, fr, e, (hb.block _ (lt_of_block hh)).trans hh⟩
theorem Tag.but {w w' : World} {p n c : Nat} {a : Option Addr} {l : List UInt8} (h : Tag w a n) (hrow : Row w a n c l) (hb : But w.heap.size p w w') (hp : NoBytes w p) : Tag w' a n := fun h0 => by
  obtain ⟨b, off, cs, fr, e, hh⟩ := h h0
  obtain ⟨b', off', e', _, hc⟩ := hrow.2.2.2.2 h0
  rw [e] at e'
  cases e'
  have hbp : b ≠ p := fun e => by subst e; exact hp _ _ (hc 0 h0)
  exact ⟨b, off, cs, fr, e, hb.heap hh (lt_of_block hh) hbp⟩
theorem Tag.drop {w : World} {a a' : Option Addr} {n k : Nat} (h : Tag w a n) (ha' : k < n → ∀ b off, a = some ⟨b, off, none⟩ → a' = some ⟨b, off + k, none⟩) : Tag w a' (n - k) := fun h0 => by
  obtain ⟨b, off, cs, fr, e, hh⟩ := h (by omega)
  exact ⟨b, off + k, cs, fr, ha' (by omega) b off e, hh⟩

end Go.Proofs.YtnjnomebcggccaaGreatDoor
namespace Go.Proofs.YtnjnomebcggccaaGreatDoor
open Go.RowKit

/-- A byte of a number; a definition of its own, so that the walk leaves it as it stands. -/
def bt (x : Nat) : UInt8 := UInt8.ofNat x

/-- A number's bytes, f + 1 of them at most. -/
def nb : Nat → Nat → List UInt8
  | 0, n => [bt n]
  | f + 1, n => if n < 128 then [bt n] else bt (n % 128 + 128) :: nb f (n / 128)
/-- A number's bytes; one below 0 as 0. -/
def numB (n : Int) : List UInt8 := nb 8 n.toNat

theorem nb_small (f n : Nat) (h : n < 128) : nb f n = [bt n] := by
  cases f with
  | zero => rfl
  | succ f => unfold nb; rw [if_pos h]
theorem nb_large (f n : Nat) (h : 128 ≤ n) : nb (f + 1) n = bt (n % 128 + 128) :: nb f (n / 128) := by
  rw [nb, if_neg (by omega)]
theorem nb_len : ∀ f n, 1 ≤ (nb f n).length ∧ (nb f n).length ≤ f + 1
  | 0, n => by simp [nb]
  | f + 1, n => by
    have := nb_len f (n / 128)
    by_cases h : n < 128
    · rw [nb_small _ _ h]; simp
    · rw [nb_large _ _ (by omega)]; simp; omega
theorem numB_len (n : Int) : 1 ≤ (numB n).length ∧ (numB n).length ≤ 9 := nb_len 8 _

/-- What holds at the head of each round: 'acc' is written, 'r' is to be written in f + 1 bytes at most. -/
def Rest (n : Nat) (acc : List UInt8) (r : Nat) : Prop := ∃ f, acc ++ nb f r = nb 8 n ∧ acc.length + f ≤ 8 ∧ r < 128 ^ (f + 1)
theorem rest_start (n : Nat) (h : n ≤ 9223372036854775807) : Rest n [] n := by
  have e : (128 : Nat) ^ (8 + 1) = 9223372036854775808 := by decide
  exact ⟨8, rfl, by simp, by omega⟩
theorem rest_len {n r : Nat} {acc : List UInt8} (h : Rest n acc r) : acc.length ≤ 8 := by
  obtain ⟨f, _, h2, _⟩ := h
  omega
theorem rest_step {n r : Nat} {acc : List UInt8} (h : Rest n acc r) (hr : 128 ≤ r) : Rest n (acc ++ [bt (r % 128 + 128)]) (r / 128) := by
  obtain ⟨f, h1, h2, h3⟩ := h
  cases f with
  | zero => simp at h3; omega
  | succ f =>
    rw [nb_large f r hr] at h1
    refine ⟨f, by rw [← h1]; simp, by simp; omega, ?_⟩
    rw [Nat.pow_succ] at h3
    omega
theorem rest_end {n r : Nat} {acc : List UInt8} (h : Rest n acc r) (hr : r < 128) : acc ++ [bt r] = nb 8 n := by
  obtain ⟨f, h1, _, _⟩ := h
  rw [nb_small f r hr] at h1
  exact h1
theorem byte_val (r : Nat) (h : r < 256) : ((bt r).toNat : Int) = (r : Int) := by
  unfold bt
  rw [UInt8.toNat_ofNat']
  omega
end Go.Proofs.YtnjnomebcggccaaGreatDoor
namespace Go.Proofs.YtnjnomebcggccaaGreatDoor
open Go.RowKit

theorem own_full {w : World} {B g n : Nat} {xs : List Value} (h : w.ownsRow B 5 1 (.slice (some ⟨g, 0, none⟩) n n) n xs) : ∃ cur : List Value, w.heap[g]? = some (.cells cur.toArray 5 (0, 0)) ∧ cur.length = n ∧ B ≤ g := by
  obtain ⟨_, h⟩ := h
  rcases h with ⟨h, _⟩ | ⟨g', cap, cur, h, hB, hh, _, _, hs, _⟩
  · cases h
  · cases h
    exact ⟨cur.toList, by simpa using hh, by simpa using hs, hB⟩



end Go.Proofs.YtnjnomebcggccaaGreatDoor
namespace Go.Proofs.YtnjnomebcggccaaGreatDoor
open Go.RowKit

/-- A pen at block pb that wrote l: its sheet, and what stands there, lie from block B on. -/
def PenAt (w : World) (B pb : Nat) (l : List UInt8) : Prop :=
  (w.heap[pb]? = some (.cells #[.pointer none, .int .i64 0] 74 (0, 0)) ∧ l = []) ∨
  ∃ sb v, w.heap[pb]? = some (.cells #[.pointer (some ⟨sb, 0, none⟩), .int .i64 (l.length : Nat)] 74 (0, 0)) ∧ w.heap[sb]? = some (.cells #[v] 121 (0, 0)) ∧ B ≤ sb ∧ Own w B v l

theorem Own.apart {w : World} {B b : Nat} {v : Value} {l : List UInt8} {cs : Array Value} {t : TypeId} (h : Own w B v l) (hb : w.heap[b]? = some (.cells cs t (0, 0))) (ht : t ≠ 5) : v.ownBlock ≠ some b := by
  rcases h.2 with ⟨rfl, _⟩ | ⟨g, cap, cur, rfl, _, hh, _⟩
  · intro e; cases e
  · intro e
    simp [Value.ownBlock] at e
    subst e
    rw [hh] at hb
    simp at hb
    exact ht hb.2.symm

theorem PenAt.store {w1 : World} {B pb sb M c' : Nat} {a' : Option Addr} {x y : Value} {r : List UInt8} {z : Int} (hp1 : w1.heap[pb]? = some (.cells #[.pointer (some ⟨sb, 0, none⟩), x] 74 (0, 0))) (hs1 : w1.heap[sb]? = some (.cells #[y] 121 (0, 0)))
    (hB : B ≤ sb) (ho : Own w1 B (.slice a' M c') r) (hz : z = (r.length : Nat)) : PenAt ((w1.setCell ⟨sb, 0, none⟩ (.slice a' M c')).setCell ⟨pb, 1, none⟩ (.int .i64 z)) B pb r := by
  subst hz
  have hne : sb ≠ pb := fun e => by subst e; rw [hp1] at hs1; simp at hs1
  have hpa := ho.apart hp1 (by decide)
  have hsa := ho.apart hs1 (by decide)
  refine .inr ⟨sb, _, two_set1 ((Below.heap_setCell _ _ _ _ (Ne.symm hne)).trans hp1), (Below.heap_setCell _ _ _ _ hne).trans (one_setCell hs1), hB, ?_⟩
  exact ownsRow_setCell_other (ownsRow_setCell_other ho hsa _) hpa _

theorem PenAt.lt {w : World} {B pb : Nat} {l : List UInt8} (h : PenAt w B pb l) : pb < w.heap.size := by
  rcases h with ⟨h, _⟩ | ⟨sb, v, h, _⟩
  · exact lt_of_block h
  · exact lt_of_block h
theorem PenAt.below {w w' : World} {B pb : Nat} {l : List UInt8} (h : PenAt w B pb l) (_hB : B ≤ w.heap.size) (hb : Below w.heap.size w w') : PenAt w' B pb l := by
  rcases h with ⟨h, h'⟩ | ⟨sb, v, h1, h2, h3, h4⟩
  · exact .inl ⟨(hb.block _ (lt_of_block h)).trans h, h'⟩
  · exact .inr ⟨sb, v, (hb.block _ (lt_of_block h1)).trans h1, (hb.block _ (lt_of_block h2)).trans h2, h3, h4.below hb⟩

set_option maxHeartbeats 800000 in
theorem write_on {B pb sb : Nat} {v : Value} {l q : List UInt8} {a : Option Addr} {m c : Nat} {w : World} (hp : w.heap[pb]? = some (.cells #[.pointer (some ⟨sb, 0, none⟩), .int .i64 (l.length : Nat)] 74 (0, 0))) (hs : w.heap[sb]? = some (.cells #[v] 121 (0, 0))) (hB : B ≤ sb) (ho : Own w B v l)
    (hq : Row w a m c q) (hm : l.length + m ≤ 140737488355328) :
    Calls Tryz.prog 78 #[.pointer (some ⟨pb, 0, none⟩), .slice a m c] w fun r w' => r = .returned (.pointer (some ⟨pb, 0, none⟩)) ∧ PenAt w' B pb (l ++ q) ∧ But B pb w w' := by
  have hbz : B ≤ w.heap.size := by have := lt_of_block hs; omega
  obtain ⟨ao, cp, rfl, _⟩ := ho.shape
  have c0 := two_cell0 hp
  have c1 := two_cell1 hp
  have f1 := two_free1 hp
  have s0 := cell_of_one hs
  have fs := free_of_one hs
  obtain ⟨i0, hi, hz0, hz1, hz2⟩ := info_parts Tryz.info5
  have HQ := Lib.hid hq
  have HI := Lib.hid hi
  obtain ⟨N, hN⟩ : ∃ N, N = l.length := ⟨_, rfl⟩
  rw [← hN] at c1 s0 hm ho hp hs
  have HO := Lib.hid ho
  have HP := Lib.hid hp
  have HS := Lib.hid hs
  have hpa : some pb ≠ (Value.slice ao N cp).ownBlock := Ne.symm (ho.apart hp (by decide))
  have hsa : some sb ≠ (Value.slice ao N cp).ownBlock := Ne.symm (ho.apart hs (by decide))
  have hpl := lt_of_block hp
  have hsp : (⟨sb, 0, none⟩ : Addr) ≠ ⟨pb, 0, none⟩ := fun e => by simp at e; subst e; rw [hp] at hs; simp at hs
  have hsl := lt_of_block hs
  have HN := Lib.hid hN
  clear hp hs ho hq hi hN
  go_enter Tryz.func78, Tryz.ntmps78
  go_wp2_with fail
  go_quiet (fail)
  go_wp2_with fail
  go_region_law
    ((refine step_append_row (by rfl) (.tmp 44) (.tmp 45) 30 (by rfl) B i0 Tryz.underlying30 HI.out hz0 hz1 hz2 (.slice ao N cp) l N HN.out.symm (by rfl) HO.out a m c q (by rfl) HQ.out hm hbz ?_; intro a' c' w1 hown1 hgrow1; have hp1 : w1.heap[pb]? = some (.cells #[.pointer (some ⟨sb, 0, none⟩), .int .i64 (N : Nat)] 74 (0, 0)) := (hgrow1.block pb hpl hpa).trans HP.out; have hs1 : w1.heap[sb]? = some (.cells #[.slice ao N cp] 121 (0, 0)) := (hgrow1.block sb hsl hsa).trans HS.out; have k0 := two_cell0 hp1; have k1 := two_cell1 hp1; have g1 := two_free1 hp1; have s1 := cell_of_one hs1; have t1 := free_of_one hs1; have HP1 := Lib.hid hp1; have HS1 := Lib.hid hs1; have HO1 := Lib.hid hown1; have HG1 := Lib.hid hgrow1; clear hp1 hs1 hown1 hgrow1))
  all_goals go_wp2
  all_goals go_ret
  all_goals
    have hb1 : Below B w w1 := Below.grown (w := w.drewN (nq + 1)) (below_drewN (Below.refl B w) _) HG1.out hbz HO.out.lt
    exact ⟨rfl, PenAt.store HP1.out HS1.out hB HO1.out (by rw [List.length_append, ← HN.out, HQ.out.1]; omega), ((But.of hb1).setCell ⟨sb, 0, none⟩ (.inr hB) _).setCell ⟨pb, 1, none⟩ (.inl rfl) _⟩
theorem bytes_none {pb : Nat} {v : Value} {w : World} (h : w.heap[pb]? = some (.cells #[v, .int .i64 0] 74 (0, 0))) : Calls Tryz.prog 25 #[.pointer (some ⟨pb, 0, none⟩)] w fun r w' => r = .returned (.slice none 0 0) ∧ w = w' := by
  have c1 := two_cell1 h
  clear h
  go_enter Tryz.func25, Tryz.ntmps25
  go_wp2
  go_ret
  exact ⟨rfl, rfl⟩

set_option maxHeartbeats 800000 in
theorem write_fresh {B pb : Nat} {q : List UInt8} {a : Option Addr} {m c : Nat} {w : World} (hp : w.heap[pb]? = some (.cells #[.pointer none, .int .i64 0] 74 (0, 0))) (hbz : B ≤ w.heap.size)
    (hq : Row w a m c q) (hm : m ≤ 140737488355328) :
    Calls Tryz.prog 78 #[.pointer (some ⟨pb, 0, none⟩), .slice a m c] w fun r w' => r = .returned (.pointer (some ⟨pb, 0, none⟩)) ∧ PenAt w' B pb q ∧ But B pb w w' := by
  have c0 := two_cell0 hp
  have c1 := two_cell1 hp
  have f0 := two_free0 hp
  have f1 := two_free1 hp
  have hpl := lt_of_block hp
  have hpn : NoBytes w pb := noBytes_two hp (fun _ h => by cases h) (fun _ h => by cases h)
  obtain ⟨i0, hi, hz0, hz1, hz2⟩ := info_parts Tryz.info5
  have HP := Lib.hid hp
  have HQ := Lib.hid hq
  have HI := Lib.hid hi
  have HPN := Lib.hid hpn
  clear hp hq hi hpn
  go_enter Tryz.func78, Tryz.ntmps78
  go_wp2_with fail
  go_quiet (fail)
  clear c0 c1 f0 f1 hpl
  have hb0 : Below B w (w.drewN nq) := below_drewN (Below.refl B w) _
  have hp0 : (w.drewN nq).heap[pb]? = some (.cells #[.pointer none, .int .i64 0] 74 (0, 0)) := HP.out
  have hbz0 : B ≤ (w.drewN nq).heap.size := hbz
  have hq0 : Row (w.drewN nq) a m c q := HQ.out
  have hn0 : NoBytes (w.drewN nq) pb := HPN.out
  revert hb0 hp0 hbz0 hq0 hn0
  generalize w.drewN nq = w0
  intro hb0 hp0 hbz0 hq0 hn0
  have c0 := two_cell0 hp0
  have c1 := two_cell1 hp0
  have f0 := two_free0 hp0
  have f1 := two_free1 hp0
  have hpl := lt_of_block hp0
  have HB0 := Lib.hid hb0
  have HP0 := Lib.hid hp0
  have HQ0 := Lib.hid hq0
  have HN0 := Lib.hid hn0
  clear hb0 hp0 hq0 hn0
  go_wp2_with (go_at_call 25; refine (bytes_none HP0.out).mono ?_; rintro r w' ⟨rfl, rfl⟩)
  have h1 : ((w0.setCell ⟨pb, 0, none⟩ (.pointer (some ⟨w0.heap.size, 0, none⟩))).alloc (.cells #[.slice none 0 0] 121)).heap[pb]? = some (.cells #[.pointer (some ⟨w0.heap.size, 0, none⟩), .int .i64 0] 74 (0, 0)) :=
    (Below.heap_alloc _ _ _ (by simpa using hpl)).trans (two_set0 HP0.out)
  have h2 : ((w0.setCell ⟨pb, 0, none⟩ (.pointer (some ⟨w0.heap.size, 0, none⟩))).alloc (.cells #[.slice none 0 0] 121)).heap[w0.heap.size]? = some (.cells #[.slice none 0 0] 121 (0, 0)) := by
    have := heap_alloc_new (w0.setCell ⟨pb, 0, none⟩ (.pointer (some ⟨w0.heap.size, 0, none⟩))) (.cells #[.slice none 0 0] 121)
    simpa using this
  have h3 : But w0.heap.size pb w0 ((w0.setCell ⟨pb, 0, none⟩ (.pointer (some ⟨w0.heap.size, 0, none⟩))).alloc (.cells #[.slice none 0 0] 121)) :=
    ((But.refl _ pb _).setCell ⟨pb, 0, none⟩ (.inl rfl) _).alloc (by simp) _
  have h4 : Row ((w0.setCell ⟨pb, 0, none⟩ (.pointer (some ⟨w0.heap.size, 0, none⟩))).alloc (.cells #[.slice none 0 0] 121)) a m c q := HQ0.out.butN h3 HN0.out
  have h5 : But B pb w ((w0.setCell ⟨pb, 0, none⟩ (.pointer (some ⟨w0.heap.size, 0, none⟩))).alloc (.cells #[.slice none 0 0] 121)) := (But.of HB0.out).trans (h3.mono hbz0)
  clear h3
  revert h1 h2 h4 h5
  generalize ((w0.setCell ⟨pb, 0, none⟩ (.pointer (some ⟨w0.heap.size, 0, none⟩))).alloc (.cells #[.slice none 0 0] 121)) = w2
  revert hbz0
  generalize w0.heap.size = sb
  intro hB hp hs hq hb2
  clear c0 c1 f0 f1 hpl
  have c0 := two_cell0 hp
  have c1 := two_cell1 hp
  have f1 := two_free1 hp
  have s0 := cell_of_one hs
  have fs := free_of_one hs
  have ho : Own w2 B (.slice none 0 0) [] := World.ownsRow_nil _ _ _ _
  have hpa : some pb ≠ (Value.slice none 0 0).ownBlock := fun e => by cases e
  have hsa : some sb ≠ (Value.slice none 0 0).ownBlock := fun e => by cases e
  have hpl := lt_of_block hp
  have hsl := lt_of_block hs
  have hsp : (⟨sb, 0, none⟩ : Addr) ≠ ⟨pb, 0, none⟩ := fun e => by simp at e; subst e; rw [hp] at hs; simp at hs
  have hbz2 : B ≤ w2.heap.size := by omega
  have hm0 : 0 + m ≤ 140737488355328 := by omega
  have HPP := Lib.hid hp
  have HS := Lib.hid hs
  have HQQ := Lib.hid hq
  have HO := Lib.hid ho
  have HB2 := Lib.hid hb2
  clear hp hs hq ho hb2
  go_region_law
    ((refine step_append_row (by rfl) (.tmp 44) (.tmp 45) 30 (by rfl) B i0 Tryz.underlying30 HI.out hz0 hz1 hz2 (.slice none 0 0) [] 0 rfl (by rfl) HO.out a m c q (by rfl) HQQ.out hm0 hbz2 ?_; intro a' c' w1 hown1 hgrow1; have hp1 : w1.heap[pb]? = some (.cells #[.pointer (some ⟨sb, 0, none⟩), .int .i64 0] 74 (0, 0)) := (hgrow1.block pb hpl hpa).trans HPP.out; have hs1 : w1.heap[sb]? = some (.cells #[.slice none 0 0] 121 (0, 0)) := (hgrow1.block sb hsl hsa).trans HS.out; have k0 := two_cell0 hp1; have k1 := two_cell1 hp1; have g1 := two_free1 hp1; have s1 := cell_of_one hs1; have t1 := free_of_one hs1; have HP1 := Lib.hid hp1; have HS1 := Lib.hid hs1; have HO1 := Lib.hid hown1; have HG1 := Lib.hid hgrow1; clear hp1 hs1 hown1 hgrow1))
  all_goals go_wp2
  all_goals go_ret
  all_goals
    have hb1 : Below B w2 w1 := Below.grown (w := w2.drew) ((Below.refl B w2).drew) HG1.out hbz2 HO.out.lt
    exact ⟨rfl, PenAt.store HP1.out HS1.out hB (by simpa using HO1.out) (by rw [HQQ.out.1]), HB2.out.trans (((But.of hb1).setCell ⟨sb, 0, none⟩ (.inr hB) _).setCell ⟨pb, 1, none⟩ (.inl rfl) _)⟩
theorem write_any {B pb : Nat} {l q : List UInt8} {a : Option Addr} {m c : Nat} {w : World} (hp : PenAt w B pb l) (hbz : B ≤ w.heap.size) (hq : Row w a m c q) (hm : l.length + m ≤ 140737488355328) :
    Calls Tryz.prog 78 #[.pointer (some ⟨pb, 0, none⟩), .slice a m c] w fun r w' => r = .returned (.pointer (some ⟨pb, 0, none⟩)) ∧ PenAt w' B pb (l ++ q) ∧ But B pb w w' := by
  rcases hp with ⟨h, rfl⟩ | ⟨sb, v, h1, h2, h3, h4⟩
  · exact write_fresh h hbz hq (by simpa using hm)
  · exact write_on h1 h2 h3 h4 hq hm
/-- All that the pen wrote is told, in a slice of the call's own. -/
theorem bytes_some {B pb sb : Nat} {v : Value} {l : List UInt8} {w : World} (hp : w.heap[pb]? = some (.cells #[.pointer (some ⟨sb, 0, none⟩), .int .i64 (l.length : Nat)] 74 (0, 0))) (hs : w.heap[sb]? = some (.cells #[v] 121 (0, 0)))
    (ho : Own w B v l) (h0 : 0 < l.length) (hm : l.length ≤ 140737488355328) :
    Calls Tryz.prog 25 #[.pointer (some ⟨pb, 0, none⟩)] w fun r w' => ∃ n c, r = .returned (.slice (some ⟨w.heap.size, 0, none⟩) n c) ∧ Row w' (some ⟨w.heap.size, 0, none⟩) n c l ∧ Below w.heap.size w w' := by
  obtain ⟨ao, cp, rfl, _⟩ := ho.shape
  have hrow := ho.row
  have hpl := lt_of_block hp
  have hsl := lt_of_block hs
  obtain ⟨N, hN⟩ : ∃ N, N = l.length := ⟨_, rfl⟩
  rw [← hN] at hp hs h0 hm hrow
  have c0 := two_cell0 hp
  have c1 := two_cell1 hp
  have s0 := cell_of_one hs
  have hne : ((N : Int) == 0) = false := by simp; omega
  have HN := Lib.hid hN
  have HROW := Lib.hid hrow
  clear hp hs ho hN hrow
  obtain ⟨i0, hi, hz0, hz1, hz2⟩ := info_parts Tryz.info5
  obtain ⟨cs, hcs⟩ : ∃ cs, cs = cellsOf l := ⟨_, rfl⟩
  have hcl : cs.length = N := by rw [hcs, cellsOf, List.length_map]; exact HN.out.symm
  have h1c : ∀ v ∈ cs, v.oneCell' = true := by rw [hcs]; exact cellsOf_one _
  have HCL := Lib.hid hcl
  have HCS := Lib.hid hcs
  have H1C := Lib.hid h1c
  clear hcl hcs h1c
  go_enter Tryz.func25, Tryz.ntmps25
  go_wp2_with (at_make; refine wpList_make_full _ rfl (.tmp 16) (.tmp 16) 30 rfl w.heap.size 5 i0 (.int .u8 0) 1 Tryz.underlying30 hi hz0 hz1 .i64 .i64 _ _ N rfl rfl rfl rfl ?_ ?_ ?_ ?_)
  · rw [hz2]; omega
  · unfold maxLen; omega
  · exact Nat.le_refl _
  · intro w1 hown hgrow
    obtain ⟨cur, hcur, hcurl, _⟩ := own_full hown
    have hb1 : Below w.heap.size w w1 := (Below.refl _ _).grown hgrow (Nat.le_refl _) (fun k h => by cases h)
    have k0 : w1.cell? ⟨pb, 0, none⟩ = some (.pointer (some ⟨sb, 0, none⟩)) := (hb1.cell (p := ⟨pb, 0, none⟩) hpl).trans c0
    have k2 : w1.cell? ⟨sb, 0, none⟩ = some (.slice ao N cp) := (hb1.cell (p := ⟨sb, 0, none⟩) hsl).trans s0
    have HCUR := Lib.hid hcur
    have HCURL := Lib.hid hcurl
    clear hown hgrow hcur hcurl c0 c1 s0
    go_wp2_with (with_reducible refine wpList_copy_splice rfl (.tmp 18) (.tmp 25) 30 30 rfl 5 Tryz.underlying30 Tryz.size5 _ _ N N N cp rfl rfl w.heap.size 0 cur 5 HCUR.out cs ?_ ?_ ?_ ?_ w.heap.size w hb1 (Nat.le_refl _) ?_)
    · rw [HCL.out]; show N = min N N; omega
    · intro _
      obtain ⟨b, off, rfl, hlt', hcell⟩ := HROW.out.2.2.2.2 h0
      refine ⟨_, rfl, fun j v hj => ?_⟩
      have hjn : j < N := by
        have := (List.getElem?_eq_some_iff.1 hj).1
        rw [HCL.out] at this
        exact this
      rw [HCS.out, cellsOf_get (by rw [← HN.out]; omega)] at hj
      have e1 : (⟨b, off, none⟩ : Addr).add j = ⟨b, off + j, none⟩ := by simp [Addr.add]
      rw [e1, hb1.cell (p := ⟨b, off + j, none⟩) hlt', hcell j (by omega), ← hj]
    · rw [HCL.out, HCURL.out]; omega
    · exact H1C.out
    · intro w2 hh2 hb2
      have HRES : Hid (Row w2 (some ⟨w.heap.size, 0, none⟩) N N l) := by
        refine row_new HN.out.symm (Nat.le_refl _) (by unfold maxLen; omega) _ 5 hh2.out (fun j hj => ?_)
        have hs : splice cur 0 cs = cs := by
          have e1 := HCL.out
          have e2 := HCURL.out
          simp [splice]; omega
        rw [hs, HCS.out]
        exact cellsOf_get (by rw [← HN.out]; omega)
      have HB2 := Lib.hid hb2
      clear hb1 hb2
      go_wp2
      go_ret
      exact ⟨N, N, rfl, HRES.out, HB2.out⟩
theorem bytes_any {B pb : Nat} {l : List UInt8} {w : World} (hp : PenAt w B pb l) (hm : l.length ≤ 140737488355328) :
    Calls Tryz.prog 25 #[.pointer (some ⟨pb, 0, none⟩)] w fun r w' => ∃ a n c, r = .returned (.slice a n c) ∧ Row w' a n c l ∧ (∀ x, a = some x → w.heap.size ≤ x.block) ∧ Below w.heap.size w w' := by
  rcases hp with ⟨h, rfl⟩ | ⟨sb, v, h1, h2, h3, h4⟩
  · exact (bytes_none h).mono fun r w' ⟨e1, e2⟩ => ⟨none, 0, 0, e1, Row.nil w', fun x e => (by cases e), by rw [e2]; exact Below.refl _ _⟩
  · by_cases h0 : 0 < l.length
    · exact (bytes_some h1 h2 h4 h0 hm).mono fun r w' ⟨n, c, e1, e2, e3⟩ => ⟨_, n, c, e1, e2, fun x e => (by cases e; exact Nat.le_refl _), e3⟩
    · obtain rfl : l = [] := List.eq_nil_of_length_eq_zero (by omega)
      exact (bytes_none h1).mono fun r w' ⟨e1, e2⟩ => ⟨none, 0, 0, e1, Row.nil w', fun x e => (by cases e), by rw [e2]; exact Below.refl _ _⟩
/-- A new block of one byte. -/
theorem row_one (w : World) (x : Nat) (z : Int) (hx : x < 256) (hz : z = (x : Int)) : Row (w.alloc (.cells #[.int .u8 z] 5)) (some ⟨w.heap.size, 0, none⟩) 1 1 [bt x] := by
  refine row_new rfl (Nat.le_refl _) (by unfold maxLen; omega) [.int .u8 z] 5 (heap_alloc_new w _) (fun j hj => ?_)
  obtain rfl : j = 0 := by omega
  have e : ((([bt x].getD 0 0).toNat : Nat) : Int) = z := by rw [hz]; exact byte_val x hx
  rw [e]
  rfl

/-- An 'append' within the law's own number, round or end: the same on both ways. -/
theorem numB_neg {z : Int} (h : z < 0) : numB z = nb 8 0 := by
  unfold numB
  rw [show z.toNat = 0 by omega]

set_option maxHeartbeats 1600000 in
/-- A number is written by a pen, nil or not. -/
theorem pnum_any (z : Int) (w : World) (p : Option Addr) (R : Option Addr → List UInt8 → World → World → Prop) (hz63 : z ≤ 9223372036854775807)
    (hw : ∀ (w1 : World) (a : Option Addr) (k c : Nat), Below w.heap.size w w1 → Row w1 a k c (numB z) → (∀ x, a = some x → w.heap.size ≤ x.block) →
      Calls Tryz.prog 78 #[.pointer p, .slice a k c] w1 fun r w' => r = .returned (.pointer p) ∧ R p (numB z) w w') :
    Calls Tryz.prog 50 #[.pointer p, .int .i64 z] w fun r w' => r = .returned (.pointer p) ∧ R p (numB z) w w' := by
  obtain ⟨i0, hi, hz0, hz1, hz2⟩ := info_parts Tryz.info5
  have HW := Lib.hid hw
  clear hw
  obtain ⟨n, hzn, hnb, hn⟩ : ∃ n : Nat, ((z < 0 ∧ n = 0) ∨ z = (n : Int)) ∧ numB z = nb 8 n ∧ n ≤ 9223372036854775807 := by
    by_cases h : z < 0
    · exact ⟨0, .inl ⟨h, rfl⟩, numB_neg h, by omega⟩
    · exact ⟨z.toNat, .inr (by omega), rfl, by omega⟩
  rw [hnb] at HW ⊢
  clear hnb
  rcases hzn with ⟨hneg, rfl⟩ | rfl
  case' inl => obtain ⟨n, hn0⟩ : ∃ n : Nat, n = 0 := ⟨_, rfl⟩
  case' inl => have hstart : Value.int .i64 0 = Value.int .i64 (n : Int) := by rw [hn0]; rfl
  case' inl => rw [← hn0] at hn HW ⊢
  case' inl => have HST := Lib.hid hstart
  case' inl => clear hstart hn0
  case' inr => have HST : Hid (Value.int .i64 (n : Int) = Value.int .i64 (n : Int)) := rfl
  all_goals
    go_enter Tryz.func50, Tryz.ntmps50
    go_wp2_with (at_make; refine wpList_make_own _ rfl _ _ 30 rfl w.heap.size 5 i0 (.int .u8 0) 1 Tryz.underlying30 hi hz0 hz1 .i64 .i64 9 9 rfl rfl rfl (by rw [hz2]; omega) (by unfold maxLen; omega) (Nat.le_refl _) ?_; intro w1 hown1 hgrow1; have HOWN1 : Hid (Own w1 w.heap.size (.slice (some ⟨w.heap.size, 0, none⟩) 0 9) []) := hown1; have HBEL1 : Hid (Below w.heap.size w w1) := (Below.refl _ _).grown hgrow1 (Nat.le_refl _) (fun k h => by cases h); clear hown1 hgrow1)
    go_loopw [6, 5] (fun s v wr => ∃ (r k c : Nat) (acc : List UInt8) (a : Option Addr), s = .int .i64 r ∧ v = .slice a k c ∧ Own wr w.heap.size (.slice a k c) acc ∧ acc.length = k ∧ Rest n acc r ∧ r ≤ 9223372036854775807 ∧ Below w.heap.size w wr) (fun s _ _ => (intOf s).toNat)
    case atStart => exact ⟨n, 0, 9, [], _, (by first | rfl | exact HST.out), rfl, HOWN1.out, rfl, rest_start n hn, hn, HBEL1.out⟩
    case round =>
      obtain ⟨r, k, c, acc, a, rfl, rfl, hown, hk, hrest, hr63, hbel⟩ := hrel
      have hkl : k ≤ 8 := by rw [← hk]; exact rest_len hrest
      have HOWN := Lib.hid hown
      have HK := Lib.hid hk
      have HREST := Lib.hid hrest
      have HBEL := Lib.hid hbel
      have HI := Lib.hid hi
      have hbz := hbel.size
      clear hown hk hrest hbel hi
      by_cases hr : 128 ≤ r
      · have hgt : decide ((128 : Int) ≤ (r : Int)) = true := by simp; omega
        have hx : r % 128 + 128 < 256 := by omega
        go_wp2_with (at_builtin; refine wpList_append_row _ rfl (.tmp 12) (.tmp 17) 30 rfl w.heap.size i0 Tryz.underlying30 HI.out hz0 hz1 hz2 _ acc k HK.out rfl (HOWN.out.alloc _) _ 1 1 [bt (r % 128 + 128)] rfl (row_one wr _ _ hx (by omega)) (by omega) (by simp; omega) ?_)
        intro a' c' w2 hown2 hgrow2
        have hbel2 : Below w.heap.size w w2 := (HBEL.out.alloc hbz _).grown hgrow2 (by simp; omega) HOWN.out.lt
        have HOWN2 := Lib.hid hown2
        have HBEL2 := Lib.hid hbel2
        clear hown2 hgrow2 hbel2
        go_wp2
        go_roundw
        case rel => exact ⟨r / 128, k + 1, c', _, a', by go_num, rfl, HOWN2.out, by simp [HK.out], rest_step HREST.out hr, by omega, HBEL2.out⟩
        case measure => simp [intOf]; omega
      · have hgt : decide ((128 : Int) ≤ (r : Int)) = false := by simp; omega
        have hx : r < 256 := by omega
        go_wp2_with (at_builtin; refine wpList_append_row _ rfl (.tmp 22) (.tmp 25) 30 rfl w.heap.size i0 Tryz.underlying30 HI.out hz0 hz1 hz2 _ acc k HK.out rfl (HOWN.out.alloc _) _ 1 1 [bt r] rfl (row_one wr _ _ hx (by omega)) (by omega) (by simp; omega) ?_)
        intro a' c' w2 hown2 hgrow2
        have hbel2 : Below w.heap.size w w2 := (HBEL.out.alloc hbz _).grown hgrow2 (by simp; omega) HOWN.out.lt
        rw [rest_end HREST.out (by omega)] at hown2
        have hrow := hown2.row
        have hfr := hown2.fresh
        have HBEL2 := Lib.hid hbel2
        have HROW2 := Lib.hid hrow
        have HFR := Lib.hid hfr
        clear hown2 hgrow2 hbel2 hrow hfr
        go_wp2_with (go_at_call 78; refine (HW.out _ _ _ _ HBEL2.out HROW2.out HFR.out).mono ?_; rintro e w3 ⟨rfl, hR⟩; have HR := Lib.hid hR; clear hR)
        go_ret
        exact ⟨rfl, HR.out⟩
theorem pnum_at {B pb : Nat} {l : List UInt8} {w : World} (z : Int) (hp : PenAt w B pb l) (hbz : B ≤ w.heap.size) (hm : l.length + 9 ≤ 140737488355328) (hz63 : z ≤ 9223372036854775807) :
    Calls Tryz.prog 50 #[.pointer (some ⟨pb, 0, none⟩), .int .i64 z] w fun r w' => r = .returned (.pointer (some ⟨pb, 0, none⟩)) ∧ PenAt w' B pb (l ++ numB z) ∧ But B pb w w' := by
  refine pnum_any z w (some ⟨pb, 0, none⟩) (fun _ q w w' => PenAt w' B pb (l ++ q) ∧ But B pb w w') hz63 fun w1 a k c hb hrow _ => ?_
  have hn := numB_len z
  have hk := hrow.1
  exact (write_any (hp.below hbz hb) (Nat.le_trans hbz hb.size) hrow (by omega)).mono fun r w' ⟨h1, h2, h3⟩ => ⟨h1, h2, (But.of (hb.mono hbz)).trans h3⟩
end Go.Proofs.YtnjnomebcggccaaGreatDoor
namespace Go.Proofs.YtnjnomebcggccaaGreatDoor
open Go.RowKit

end Go.Proofs.YtnjnomebcggccaaGreatDoor
namespace Go.Proofs.YtnjnomebcggccaaGreatDoor
open Go.RowKit


end Go.Proofs.YtnjnomebcggccaaGreatDoor
namespace Go.Proofs.YtnjnomebcggccaaGreatDoor
open Go.RowKit


theorem But.drewN {B p : Nat} {w w' : World} (h : But B p w w') (n : Nat) : But B p w (w'.drewN n) := ⟨h.os, h.tape, h.output, h.size, h.block⟩
theorem But.after {p : Nat} {w w1 w2 : World} (h : Below w.heap.size w w1) (k : But w1.heap.size p w1 w2) : But w.heap.size p w w2 :=
  (But.of h).trans ⟨k.os, k.tape, k.output, k.size, fun i hi hp => k.block i (Nat.lt_of_lt_of_le hi h.size) hp⟩
end Go.Proofs.YtnjnomebcggccaaGreatDoor
namespace Go.Proofs.YtnjnomebcggccaaGreatDoor
open Go.RowKit

end Go.Proofs.YtnjnomebcggccaaGreatDoor
namespace Go.Proofs.YtnjnomebcggccaaGreatDoor
open Go.RowKit

/-- The bytes of numbers, one behind the other. -/
def numsB : List Int → List UInt8
  | [] => []
  | z :: l => numB z ++ numsB l
theorem numsB_snoc : ∀ (l : List Int) (z : Int), numsB (l ++ [z]) = numsB l ++ numB z
  | [], z => by simp [numsB]
  | x :: l, z => by simp [numsB, numsB_snoc l z]
theorem numsB_len : ∀ (l : List Int), (numsB l).length ≤ 9 * l.length
  | [] => by simp [numsB]
  | z :: l => by
    have := numsB_len l
    have h := numB_len z
    simp [numsB]
    omega
theorem numsB_take (l : List Int) (k : Nat) (h : k < l.length) : numsB (l.take (k + 1)) = numsB (l.take k) ++ numB (l.getD k 0) := by
  rw [List.take_succ_eq_append_getElem h, numsB_snoc]
  simp [List.getD, h]
end Go.Proofs.YtnjnomebcggccaaGreatDoor
namespace Go.Proofs.YtnjnomebcggccaaGreatDoor
open Go.RowKit

theorem PenAt.noBytes {w : World} {B pb : Nat} {l : List UInt8} (h : PenAt w B pb l) : NoBytes w pb := by
  rcases h with ⟨h, _⟩ | ⟨sb, v, h, _⟩
  · exact noBytes_two h (fun _ h => by cases h) (fun _ h => by cases h)
  · exact noBytes_two h (fun _ h => by cases h) (fun _ h => by cases h)
theorem Row.butB {w w' : World} {p n c B : Nat} {a : Option Addr} {l : List UInt8} (h : Row w a n c l) (hb : But B p w w') (hp : NoBytes w p) (hB : 0 < n → ∀ x, a = some x → x.block < B) : Row w' a n c l := by
  obtain ⟨h1, h2, h3, h4, h5⟩ := h
  refine ⟨h1, h2, h3, h4, fun h0 => ?_⟩
  obtain ⟨b, off, rfl, hlt, hc⟩ := h5 h0
  have hbp : b ≠ p := fun e => by subst e; exact hp _ _ (hc 0 h0)
  exact ⟨b, off, rfl, Nat.lt_of_lt_of_le hlt hb.size, fun j hj => (hb.cell (a := ⟨b, off + j, none⟩) (hB h0 ⟨b, off, none⟩ rfl) hbp).trans (hc j hj)⟩

theorem psum_at {B pb : Nat} {l s : List UInt8} (w : World) (hs : s.length = 32) (hp : PenAt w B pb l) (hbz : B ≤ w.heap.size) (hl : l.length ≤ 1000000) :
    Calls Tryz.prog 51 #[.pointer (some ⟨pb, 0, none⟩), .agg (cellsOf s).toArray] w fun r w' => r = .returned (.pointer (some ⟨pb, 0, none⟩)) ∧ PenAt w' B pb (l ++ s) ∧ But B pb w w' := by
  have hb1 : Below w.heap.size w (w.alloc (.cells (cellsOf s).toArray 23)) := (Below.refl _ _).alloc (Nat.le_refl _) _
  have hp1 : PenAt (w.alloc (.cells (cellsOf s).toArray 23)) B pb l := hp.below hbz hb1
  have hr1 : Row (w.alloc (.cells (cellsOf s).toArray 23)) (some ⟨w.heap.size, 0, none⟩) 32 32 s :=
    row_new hs (Nat.le_refl _) (by unfold maxLen; omega) (cellsOf s) 23 (heap_alloc_new w _) (fun j hj => cellsOf_get (by omega))
  have HB1 := Lib.hid hb1
  have HP1 := Lib.hid hp1
  have HR1 := Lib.hid hr1
  have hlv : (cellsOf s).toArray.size = 32 := by simpa [cellsOf] using hs
  clear hb1 hp1 hr1 hp hs
  obtain ⟨V, hV⟩ : ∃ V, V = (cellsOf s).toArray := ⟨_, rfl⟩
  rw [← hV] at HB1 HP1 HR1 hlv ⊢
  clear hV
  go_enter Tryz.func51, Tryz.ntmps51
  go_wp2_with fail
  refine (write_any HP1.out (by simp; omega) HR1.out (by omega)).mono ?_
  rintro r w2 ⟨rfl, hp2, hb2⟩
  have HP2 := Lib.hid hp2
  have HB2 := Lib.hid hb2
  clear hp2 hb2
  go_wp2_with fail
  go_ret
  exact ⟨rfl, HP2.out, (But.of (HB1.out.mono hbz)).trans HB2.out⟩
end Go.Proofs.YtnjnomebcggccaaGreatDoor
namespace Go.Proofs.YtnjnomebcggccaaGreatDoor

end Go.Proofs.YtnjnomebcggccaaGreatDoor
namespace Go.Proofs.YtnjnomebcggccaaGreatDoor
open Go.RowKit

theorem Own.base {w : World} {B B' : Nat} {v : Value} {l : List UInt8} (h : Own w B v l) (hB : B' ≤ B) : Own w B' v l := by
  refine ⟨h.1, ?_⟩
  rcases h.2 with h0 | ⟨g, cap, cur, hv, hb, r⟩
  · exact .inl h0
  · exact .inr ⟨g, cap, cur, hv, by omega, r⟩
theorem PenAt.base {w : World} {B B' pb : Nat} {l : List UInt8} (h : PenAt w B pb l) (hB : B' ≤ B) : PenAt w B' pb l := by
  rcases h with h | ⟨sb, v, h1, h2, h3, h4⟩
  · exact .inl h
  · exact .inr ⟨sb, v, h1, h2, by omega, h4.base hB⟩
set_option maxHeartbeats 800000 in
theorem write_keep {B pb sb : Nat} {v : Value} {l q : List UInt8} {a : Option Addr} {m c : Nat} {w : World} (hp : w.heap[pb]? = some (.cells #[.pointer (some ⟨sb, 0, none⟩), .int .i64 (l.length : Nat)] 74 (0, 0))) (hs : w.heap[sb]? = some (.cells #[v] 121 (0, 0))) (hB : B ≤ sb) (ho : Own w B v l)
    (hq : Row w a m c q) (hm : l.length + m ≤ 140737488355328) :
    Calls Tryz.prog 78 #[.pointer (some ⟨pb, 0, none⟩), .slice a m c] w fun r w' => r = .returned (.pointer (some ⟨pb, 0, none⟩)) ∧ (PenAt w' B pb (l ++ q) ∧ But B pb w w') ∧ ∀ k, k < w.heap.size → k ≠ pb → k ≠ sb → v.ownBlock ≠ some k → w'.heap[k]? = w.heap[k]? := by
  have hbz : B ≤ w.heap.size := by have := lt_of_block hs; omega
  obtain ⟨ao, cp, rfl, _⟩ := ho.shape
  have c0 := two_cell0 hp
  have c1 := two_cell1 hp
  have f1 := two_free1 hp
  have s0 := cell_of_one hs
  have fs := free_of_one hs
  obtain ⟨i0, hi, hz0, hz1, hz2⟩ := info_parts Tryz.info5
  have HQ := Lib.hid hq
  have HI := Lib.hid hi
  obtain ⟨N, hN⟩ : ∃ N, N = l.length := ⟨_, rfl⟩
  rw [← hN] at c1 s0 hm ho hp hs
  have HO := Lib.hid ho
  have HP := Lib.hid hp
  have HS := Lib.hid hs
  have hpa : some pb ≠ (Value.slice ao N cp).ownBlock := Ne.symm (ho.apart hp (by decide))
  have hsa : some sb ≠ (Value.slice ao N cp).ownBlock := Ne.symm (ho.apart hs (by decide))
  have hpl := lt_of_block hp
  have hsp : (⟨sb, 0, none⟩ : Addr) ≠ ⟨pb, 0, none⟩ := fun e => by simp at e; subst e; rw [hp] at hs; simp at hs
  have hsl := lt_of_block hs
  have HN := Lib.hid hN
  clear hp hs ho hq hi hN
  go_enter Tryz.func78, Tryz.ntmps78
  go_wp2_with fail
  go_quiet (fail)
  go_wp2_with fail
  go_region_law
    ((refine step_append_row (by rfl) (.tmp 44) (.tmp 45) 30 (by rfl) B i0 Tryz.underlying30 HI.out hz0 hz1 hz2 (.slice ao N cp) l N HN.out.symm (by rfl) HO.out a m c q (by rfl) HQ.out hm hbz ?_; intro a' c' w1 hown1 hgrow1; have hp1 : w1.heap[pb]? = some (.cells #[.pointer (some ⟨sb, 0, none⟩), .int .i64 (N : Nat)] 74 (0, 0)) := (hgrow1.block pb hpl hpa).trans HP.out; have hs1 : w1.heap[sb]? = some (.cells #[.slice ao N cp] 121 (0, 0)) := (hgrow1.block sb hsl hsa).trans HS.out; have k0 := two_cell0 hp1; have k1 := two_cell1 hp1; have g1 := two_free1 hp1; have s1 := cell_of_one hs1; have t1 := free_of_one hs1; have HP1 := Lib.hid hp1; have HS1 := Lib.hid hs1; have HO1 := Lib.hid hown1; have HG1 := Lib.hid hgrow1; clear hp1 hs1 hown1 hgrow1))
  all_goals go_wp2
  all_goals go_ret
  all_goals
    have hb1 : Below B w w1 := Below.grown (w := w.drewN (nq + 1)) (below_drewN (Below.refl B w) _) HG1.out hbz HO.out.lt
    exact ⟨rfl, ⟨PenAt.store HP1.out HS1.out hB HO1.out (by rw [List.length_append, ← HN.out, HQ.out.1]; omega), ((But.of hb1).setCell ⟨sb, 0, none⟩ (.inr hB) _).setCell ⟨pb, 1, none⟩ (.inl rfl) _⟩,
      fun k h1 h2 h3 h4 => (Below.heap_setCell _ _ _ _ h2).trans ((Below.heap_setCell _ _ _ _ h3).trans (HG1.out.block k h1 (fun e => h4 (by rw [← HN.out]; exact e.symm))))⟩
/-- Blocks that no pen writes stay. -/
def Keeps (w w' : World) : Prop := ∀ (k : Nat) (cs : Array Value) (t : TypeId) (fr : Nat × Nat), w.heap[k]? = some (.cells cs t fr) → t ≠ 5 → t ≠ 121 → t ≠ 74 → w'.heap[k]? = w.heap[k]?
theorem Keeps.refl (w : World) : Keeps w w := fun _ _ _ _ _ _ _ _ => rfl
theorem Keeps.trans {w w1 w2 : World} (h : Keeps w w1) (k : Keeps w1 w2) : Keeps w w2 := fun i cs t fr e n1 n2 n3 => (k i cs t fr ((h i cs t fr e n1 n2 n3).trans e) n1 n2 n3).trans (h i cs t fr e n1 n2 n3)
theorem Keeps.below {w w' : World} (hb : Below w.heap.size w w') : Keeps w w' := fun i _ _ _ e _ _ _ => hb.block i (lt_of_block e)
theorem Own.apart' {w : World} {B b : Nat} {v : Value} {l : List UInt8} {cs : Array Value} {t : TypeId} {fr : Nat × Nat} (h : Own w B v l) (hb : w.heap[b]? = some (.cells cs t fr)) (ht : t ≠ 5) : v.ownBlock ≠ some b := by
  rcases h.2 with ⟨rfl, _⟩ | ⟨g, cap, cur, rfl, _, hh, _⟩
  · intro e; cases e
  · intro e
    simp [Value.ownBlock] at e
    subst e
    rw [hh] at hb
    simp at hb
    exact ht hb.2.1.symm
theorem write_typed {B pb : Nat} {l q : List UInt8} {a : Option Addr} {m c : Nat} {w : World} (hp : PenAt w B pb l) (hbz : B ≤ w.heap.size) (hq : Row w a m c q) (hm : l.length + m ≤ 140737488355328) :
    Calls Tryz.prog 78 #[.pointer (some ⟨pb, 0, none⟩), .slice a m c] w fun r w' => r = .returned (.pointer (some ⟨pb, 0, none⟩)) ∧ PenAt w' B pb (l ++ q) ∧ But B pb w w' ∧ Keeps w w' := by
  rcases hp with ⟨h, rfl⟩ | ⟨sb, v, h1, h2, h3, h4⟩
  · refine (write_fresh h (Nat.le_refl _) hq (by simpa using hm)).mono fun r w' ⟨e1, e2, e3⟩ => ⟨e1, (by simpa using e2.base hbz), e3.mono hbz, fun k cs t fr hk _ _ n3 => ?_⟩
    have hne : k ≠ pb := fun e => by subst e; rw [h] at hk; simp at hk; exact n3 hk.2.1.symm
    exact (e3.heap hk (lt_of_block hk) hne).trans hk.symm
  · refine (write_keep h1 h2 h3 h4 hq hm).mono fun r w' ⟨e1, ⟨e2, e3⟩, e4⟩ => ⟨e1, e2, e3, fun k cs t fr hk n1 n2 n3 => ?_⟩
    have hne : k ≠ pb := fun e => by subst e; rw [h1] at hk; simp at hk; exact n3 hk.2.1.symm
    have hne2 : k ≠ sb := fun e => by subst e; rw [h2] at hk; simp at hk; exact n2 hk.2.1.symm
    exact e4 k (lt_of_block hk) hne hne2 (h4.apart' hk n1)
theorem pnum_typed {B pb : Nat} {l : List UInt8} {w : World} (z : Int) (hp : PenAt w B pb l) (hbz : B ≤ w.heap.size) (hm : l.length + 9 ≤ 140737488355328) (hz63 : z ≤ 9223372036854775807) :
    Calls Tryz.prog 50 #[.pointer (some ⟨pb, 0, none⟩), .int .i64 z] w fun r w' => r = .returned (.pointer (some ⟨pb, 0, none⟩)) ∧ PenAt w' B pb (l ++ numB z) ∧ But B pb w w' ∧ Keeps w w' := by
  refine pnum_any z w (some ⟨pb, 0, none⟩) (fun _ q w w' => PenAt w' B pb (l ++ q) ∧ But B pb w w' ∧ Keeps w w') hz63 fun w1 a k c hb hrow _ => ?_
  have hn := numB_len z
  have hk := hrow.1
  exact (write_typed (hp.below hbz hb) (Nat.le_trans hbz hb.size) hrow (by omega)).mono fun r w' ⟨h1, h2, h3, h4⟩ => ⟨h1, h2, (But.of (hb.mono hbz)).trans h3, (Keeps.below hb).trans h4⟩
set_option maxHeartbeats 800000 in
/-- Numbers that stay where they lie, whatever the pen does. -/
theorem pnums_typed {b off n c B pb : Nat} {zs : List Int} {l : List UInt8} (w : World) (hzl : zs.length = n) (hnc : n ≤ c) (_hcm : c ≤ maxLen) (hz : ∀ z ∈ zs, z ≤ 9223372036854775807)
    (hcell : ∀ wr, But B pb w wr → Keeps w wr → ∀ j, j < n → wr.cell? ⟨b, off + j, none⟩ = some (.int .i64 (zs.getD j 0))) (hp : PenAt w B pb l) (hbz : B ≤ w.heap.size) (hn : n ≤ 1000) (hl : l.length ≤ 1000000) :
    Calls Tryz.prog 52 #[.pointer (some ⟨pb, 0, none⟩), .slice (some ⟨b, off, none⟩) n c] w fun r w' => r = .returned (.pointer (some ⟨pb, 0, none⟩)) ∧ PenAt w' B pb (l ++ numsB zs) ∧ But B pb w w' ∧ Keeps w w' := by
  have HP := Lib.hid hp
  have HL := Lib.hid hl
  have HZL := Lib.hid hzl
  have HZ := Lib.hid hz
  have HC := Lib.hid hcell
  clear hcell hzl hz hl hp
  go_enter Tryz.func52, Tryz.ntmps52
  go_wp2
  go_loopw [9] (fun i wr => ∃ k : Nat, k ≤ n ∧ i = .int .i64 k ∧ PenAt wr B pb (l ++ numsB (zs.take k)) ∧ But B pb w wr ∧ Keeps w wr) (fun i _ => n - (intOf i).toNat)
  case atStart => exact ⟨0, Nat.zero_le _, rfl, (by simpa [numsB] using HP.out), But.refl _ _ _, Keeps.refl _⟩
  case round =>
    obtain ⟨k, hk, rfl, hpk, hb, hkp⟩ := hrel
    have HPK := Lib.hid hpk
    have HB := Lib.hid hb
    have HKP := Lib.hid hkp
    have hbzr : B ≤ wr.heap.size := Nat.le_trans hbz hb.size
    clear hpk
    by_cases hkn : k < n
    · have hck := HC.out wr hb hkp k hkn
      have hkl : k < zs.length := by rw [HZL.out]; exact hkn
      have hzk : zs.getD k 0 ≤ 9223372036854775807 := by
        have e : zs.getD k 0 = zs[k] := by simp [List.getD, hkl]
        rw [e]
        exact HZ.out _ (List.getElem_mem hkl)
      have hts := numsB_take zs k hkl
      obtain ⟨z, hze⟩ : ∃ z, z = zs.getD k 0 := ⟨_, rfl⟩
      rw [← hze] at hck hzk hts
      have HTS := Lib.hid hts
      have HLB : Hid ((l ++ numsB (zs.take k)).length + 9 ≤ 140737488355328) := by
        have h1 := numsB_len (zs.take k)
        have h2 : (zs.take k).length ≤ k := List.length_take_le _ _
        have h3 := HL.out
        show _ ≤ _
        rw [List.length_append]
        omega
      clear hb hkp hze hts hkl
      go_wp2_with (go_at_call 50; refine (pnum_typed _ HPK.out hbzr HLB.out hzk).mono ?_; rintro r w1 ⟨rfl, hp1, hb1, hk1⟩; rw [List.append_assoc, ← HTS.out] at hp1; have HP1 := Lib.hid hp1; have HB1 := Lib.hid hb1; have HK1 := Lib.hid hk1; clear hp1 hb1 hk1)
      go_roundw
      case rel => exact ⟨k + 1, by omega, by go_num, HP1.out, HB.out.trans HB1.out, HKP.out.trans HK1.out⟩
      case measure => simp [intOf]; omega
    · obtain rfl : k = n := by omega
      have htk : zs.take k = zs := List.take_of_length_le (by rw [HZL.out]; exact Nat.le_refl _)
      have HTK := Lib.hid htk
      clear htk hb hkp
      go_wp2
      go_ret
      exact ⟨rfl, by rw [← HTK.out]; exact HPK.out, HB.out, HKP.out⟩
theorem pnums_zero {c B pb : Nat} {a : Option Addr} {l : List UInt8} (w : World) (hp : PenAt w B pb l) :
    Calls Tryz.prog 52 #[.pointer (some ⟨pb, 0, none⟩), .slice a 0 c] w fun r w' => r = .returned (.pointer (some ⟨pb, 0, none⟩)) ∧ PenAt w' B pb (l ++ numsB []) ∧ But B pb w w' ∧ Keeps w w' := by
  have HP := Lib.hid hp
  clear hp
  go_enter Tryz.func52, Tryz.ntmps52
  go_wp2
  refine wp_loop_rounds 1 ?_
  rw [rounds_succ]
  go_wp2
  go_ret
  exact ⟨rfl, by simpa [numsB] using HP.out, But.refl _ _ _, Keeps.refl _⟩
theorem psum_typed {B pb : Nat} {l s : List UInt8} (w : World) (hs : s.length = 32) (hp : PenAt w B pb l) (hbz : B ≤ w.heap.size) (hl : l.length ≤ 1000000) :
    Calls Tryz.prog 51 #[.pointer (some ⟨pb, 0, none⟩), .agg (cellsOf s).toArray] w fun r w' => r = .returned (.pointer (some ⟨pb, 0, none⟩)) ∧ PenAt w' B pb (l ++ s) ∧ But B pb w w' ∧ Keeps w w' := by
  have hb1 : Below w.heap.size w (w.alloc (.cells (cellsOf s).toArray 23)) := (Below.refl _ _).alloc (Nat.le_refl _) _
  have hp1 : PenAt (w.alloc (.cells (cellsOf s).toArray 23)) B pb l := hp.below hbz hb1
  have hr1 : Row (w.alloc (.cells (cellsOf s).toArray 23)) (some ⟨w.heap.size, 0, none⟩) 32 32 s :=
    row_new hs (Nat.le_refl _) (by unfold maxLen; omega) (cellsOf s) 23 (heap_alloc_new w _) (fun j hj => cellsOf_get (by omega))
  have HB1 := Lib.hid hb1
  have HP1 := Lib.hid hp1
  have HR1 := Lib.hid hr1
  have hlv : (cellsOf s).toArray.size = 32 := by simpa [cellsOf] using hs
  clear hb1 hp1 hr1 hp hs
  obtain ⟨V, hV⟩ : ∃ V, V = (cellsOf s).toArray := ⟨_, rfl⟩
  rw [← hV] at HB1 HP1 HR1 hlv ⊢
  clear hV
  go_enter Tryz.func51, Tryz.ntmps51
  go_wp2_with fail
  refine (write_typed HP1.out (by simp; omega) HR1.out (by omega)).mono ?_
  rintro r w2 ⟨rfl, hp2, hb2, hk2⟩
  have HP2 := Lib.hid hp2
  have HB2 := Lib.hid hb2
  have HK2 := Lib.hid hk2
  clear hp2 hb2 hk2
  go_wp2_with fail
  go_ret
  exact ⟨rfl, HP2.out, (But.of (HB1.out.mono hbz)).trans HB2.out, (Keeps.below HB1.out).trans HK2.out⟩
end Go.Proofs.YtnjnomebcggccaaGreatDoor
namespace Go.Proofs.YtnjnomebcggccaaGreatDoor
open Go.RowKit

/-! ### In memory -/
end Go.Proofs.YtnjnomebcggccaaGreatDoor
namespace Go.Proofs.YtnjnomebcggccaaGreatDoor
open Go.RowKit

end Go.Proofs.YtnjnomebcggccaaGreatDoor
