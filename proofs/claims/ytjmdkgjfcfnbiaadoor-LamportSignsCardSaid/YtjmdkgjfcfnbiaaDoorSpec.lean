/- SHA-256 as a plain function of lists of bytes, as the document's chapter 2 says it, and how it is summed piece by piece. No program is named. -/
import Derived.Test.YtjmdkgjfcfnbiaaDoorBv
namespace Go.Proofs.YtjmdkgjfcfnbiaaDoor

/-- The constants of the rounds. -/
def ks : List (BitVec 32) := [
  1116352408, 1899447441, 3049323471, 3921009573, 961987163, 1508970993, 2453635748, 2870763221,
  3624381080, 310598401, 607225278, 1426881987, 1925078388, 2162078206, 2614888103, 3248222580,
  3835390401, 4022224774, 264347078, 604807628, 770255983, 1249150122, 1555081692, 1996064986,
  2554220882, 2821834349, 2952996808, 3210313671, 3336571891, 3584528711, 113926993, 338241895,
  666307205, 773529912, 1294757372, 1396182291, 1695183700, 1986661051, 2177026350, 2456956037,
  2730485921, 2820302411, 3259730800, 3345764771, 3516065817, 3600352804, 4094571909, 275423344,
  430227734, 506948616, 659060556, 883997877, 958139571, 1322822218, 1537002063, 1747873779,
  1955562222, 2024104815, 2227730452, 2361852424, 2428436474, 2756734187, 3204031479, 3329325298]
/-- The word at place i of bytes, the highest byte first. -/
def word (b : List UInt8) (i : Nat) : BitVec 32 := BitVec.ofNat 32 ((b.getD (4 * i) 0).toNat * 16777216 + (b.getD (4 * i + 1) 0).toNat * 65536 + (b.getD (4 * i + 2) 0).toNat * 256 + (b.getD (4 * i + 3) 0).toNat)
/-- The word behind n words. -/
def nextWord (b : List UInt8) (n : Nat) (l : List (BitVec 32)) : BitVec 32 :=
  if n < 16 then word b n else l.getD (n - 16) 0 + shift3 (l.getD (n - 15) 0) 7 18 3 + l.getD (n - 7) 0 + shift3 (l.getD (n - 2) 0) 17 19 10
def moreWords (b : List UInt8) (n : Nat) (l : List (BitVec 32)) : List (BitVec 32) := l ++ [nextWord b n l]
/-- The first n words of all rounds. -/
def sched (b : List UInt8) : Nat → List (BitVec 32)
  | 0 => []
  | n + 1 => moreWords b n (sched b n)
theorem sched_len (b : List UInt8) : ∀ n, (sched b n).length = n
  | 0 => rfl
  | n + 1 => by simp [sched, moreWords, sched_len b n]
theorem sched_take (b : List UInt8) (n : Nat) : ∀ m, n ≤ m → (sched b m).take n = sched b n
  | 0, h => by have : n = 0 := by omega
               subst this; rfl
  | m + 1, h => by
    by_cases e : n = m + 1
    · subst e
      rw [List.take_of_length_le (by rw [sched_len]; omega)]
    · have := sched_take b n m (by omega)
      show (sched b m ++ [nextWord b m (sched b m)]).take n = _
      rw [List.take_append_of_le_length (by rw [sched_len]; omega), this]
theorem sched_get (b : List UInt8) (n m i : Nat) (hi : i < n) (h : n ≤ m) : (sched b m).getD i 0 = (sched b n).getD i 0 := by
  rw [← sched_take b n m h]
  simp [List.getD, hi]

structure Eight where
  a : BitVec 32
  b : BitVec 32
  c : BitVec 32
  d : BitVec 32
  e : BitVec 32
  f : BitVec 32
  g : BitVec 32
  h : BitVec 32
def Eight.list (v : Eight) : List (BitVec 32) := [v.a, v.b, v.c, v.d, v.e, v.f, v.g, v.h]
def choice (e f g : BitVec 32) : BitVec 32 := (e &&& f) ^^^ (~~~e &&& g)
def major (a b c : BitVec 32) : BitVec 32 := (a &&& b) ^^^ (a &&& c) ^^^ (b &&& c)
def tee (v : Eight) (k w : BitVec 32) : BitVec 32 := v.h + turn3 v.e 6 11 25 + choice v.e v.f v.g + k + w
def you (v : Eight) : BitVec 32 := turn3 v.a 2 13 22 + major v.a v.b v.c
def round (v : Eight) (k w : BitVec 32) : Eight := ⟨tee v k w + you v, v.a, v.b, v.c, v.d + tee v k w, v.e, v.f, v.g⟩
def rounds (ws : List (BitVec 32)) (v : Eight) : Nat → Eight
  | 0 => v
  | n + 1 => round (rounds ws v n) (ks.getD n 0) (ws.getD n 0)
def Eight.add (x y : Eight) : Eight := ⟨x.a + y.a, x.b + y.b, x.c + y.c, x.d + y.d, x.e + y.e, x.f + y.f, x.g + y.g, x.h + y.h⟩
/-- What a block makes of eight words. -/
def compress (v : Eight) (b : List UInt8) : Eight := v.add (rounds (sched b 64) v 64)
def start : Eight := ⟨1779033703, 3144134277, 1013904242, 2773480762, 1359893119, 2600822924, 528734635, 1541459225⟩
/-- The eight words behind the first k blocks. -/
def run (l : List UInt8) : Nat → Eight
  | 0 => start
  | k + 1 => compress (run l k) ((l.drop (64 * k)).take 64)
/-- A word's four bytes. -/
def four (x : BitVec 32) : List UInt8 := [UInt8.ofNat (x.toNat / 16777216), UInt8.ofNat (x.toNat / 65536), UInt8.ofNat (x.toNat / 256), UInt8.ofNat x.toNat]
theorem four_len (x : BitVec 32) : (four x).length = 4 := rfl
/-- How many bits there were, in eight bytes. -/
def bitsOf (n : Nat) : List UInt8 := four (BitVec.ofNat 32 (8 * n / 4294967296)) ++ four (BitVec.ofNat 32 (8 * n))
def behind : List UInt8 := 128 :: List.replicate 63 0
def fill (n : Nat) : Nat := 64 - (n + 8) % 64
/-- The bytes with what stands behind them. -/
def pad (l : List UInt8) : List UInt8 := l ++ behind.take (fill l.length) ++ bitsOf l.length
def Eight.bytes (v : Eight) : List UInt8 := v.list.flatMap four
/-- THE SUM OF BYTES. -/
def sumOf (l : List UInt8) : List UInt8 := (run (pad l) ((pad l).length / 64)).bytes
theorem sumOf_len (l : List UInt8) : (sumOf l).length = 32 := rfl
theorem pad_len (l : List UInt8) : (pad l).length % 64 = 0 := by
  have : fill l.length ≤ 64 := by unfold fill; omega
  have h2 : (behind.take (fill l.length)).length = fill l.length := by
    rw [List.length_take, show behind.length = 64 from rfl]; omega
  have h3 : (bitsOf l.length).length = 8 := rfl
  unfold pad
  rw [List.length_append, List.length_append, h2, h3]
  unfold fill
  omega
theorem run_append (l m : List UInt8) : ∀ k, 64 * k ≤ l.length → run (l ++ m) k = run l k
  | 0, _ => rfl
  | k + 1, h => by
    show compress (run (l ++ m) k) (((l ++ m).drop (64 * k)).take 64) = compress (run l k) ((l.drop (64 * k)).take 64)
    rw [run_append l m k (by omega)]
    rw [List.drop_append_of_le_length (by omega), List.take_append_of_le_length (by simp; omega)]
theorem run_block (l c : List UInt8) (k : Nat) (h : l.length = 64 * k) (hc : c.length = 64) : run (l ++ c) (k + 1) = compress (run l k) c := by
  show compress (run (l ++ c) k) (((l ++ c).drop (64 * k)).take 64) = _
  rw [run_append l c k (by omega), List.drop_left' (by omega), List.take_of_length_le (by omega)]

/-- The parts behind a tag: of each how many bytes it has, and it. -/
def partOf (p : List UInt8) : List UInt8 := four (BitVec.ofNat 32 p.length) ++ p
def partsOf (tag : UInt8) (ps : List (List UInt8)) : List UInt8 := tag :: ps.flatMap partOf

set_option maxRecDepth 100000 in
theorem sum_abc : sumOf [97, 98, 99] = [186, 120, 22, 191, 143, 1, 207, 234, 65, 65, 64, 222, 93, 174, 34, 35, 176, 3, 97, 163, 150, 23, 122, 156, 180, 16, 255, 97, 242, 0, 21, 173] := by decide +kernel

end Go.Proofs.YtjmdkgjfcfnbiaaDoor
