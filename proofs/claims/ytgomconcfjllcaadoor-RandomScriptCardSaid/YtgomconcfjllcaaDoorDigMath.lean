/-
  The digest in plain words: rotations, the schedule, a round, a block, the padding, the bytes of the result. No program, no world.
-/
import Derived.WalkKit
namespace Go.Proofs.YtgomconcfjllcaaDoor.Dig

def rotN (x n : Nat) : Nat := x / 2 ^ n ||| (x * 2 ^ (32 - n)) % 4294967296
def bs0 (x : Nat) : Nat := rotN x 2 ^^^ rotN x 13 ^^^ rotN x 22
def bs1 (x : Nat) : Nat := rotN x 6 ^^^ rotN x 11 ^^^ rotN x 25
def ss0 (x : Nat) : Nat := rotN x 7 ^^^ rotN x 18 ^^^ x / 8
def ss1 (x : Nat) : Nat := rotN x 17 ^^^ rotN x 19 ^^^ x / 1024
def chN (x y z : Nat) : Nat := (x &&& y) ^^^ ((4294967295 - x) &&& z)
def majN (x y z : Nat) : Nat := (x &&& y) ^^^ (x &&& z) ^^^ (y &&& z)

structure St where
  a : Nat
  b : Nat
  c : Nat
  d : Nat
  e : Nat
  f : Nat
  g : Nat
  h : Nat
deriving DecidableEq

structure St.Ok (s : St) : Prop where
  a : s.a ≤ 4294967295
  b : s.b ≤ 4294967295
  c : s.c ≤ 4294967295
  d : s.d ≤ 4294967295
  e : s.e ≤ 4294967295
  f : s.f ≤ 4294967295
  g : s.g ≤ 4294967295
  h : s.h ≤ 4294967295

def St.l (s : St) : List Nat := [s.a, s.b, s.c, s.d, s.e, s.f, s.g, s.h]
def tmp1 (s : St) (k w : Nat) : Nat := (s.h + bs1 s.e + chN s.e s.f s.g + k + w) % 4294967296
def tmp2 (s : St) : Nat := (bs0 s.a + majN s.a s.b s.c) % 4294967296
def rnd (s : St) (k w : Nat) : St := ⟨(tmp1 s k w + tmp2 s) % 4294967296, s.a, s.b, s.c, (s.d + tmp1 s k w) % 4294967296, s.e, s.f, s.g⟩

def kTab : List Nat := [1116352408, 1899447441, 3049323471, 3921009573, 961987163, 1508970993, 2453635748, 2870763221, 3624381080, 310598401, 607225278, 1426881987, 1925078388, 2162078206, 2614888103, 3248222580, 3835390401, 4022224774, 264347078, 604807628, 770255983, 1249150122, 1555081692, 1996064986, 2554220882, 2821834349, 2952996808, 3210313671, 3336571891, 3584528711, 113926993, 338241895, 666307205, 773529912, 1294757372, 1396182291, 1695183700, 1986661051, 2177026350, 2456956037, 2730485921, 2820302411, 3259730800, 3345764771, 3516065817, 3600352804, 4094571909, 275423344, 430227734, 506948616, 659060556, 883997877, 958139571, 1322822218, 1537002063, 1747873779, 1955562222, 2024104815, 2227730452, 2361852424, 2428436474, 2756734187, 3204031479, 3329325298]
def wd (b : List Int) (o : Nat) : Nat := (b.getD o 0).toNat * 16777216 + (b.getD (o + 1) 0).toNat * 65536 + (b.getD (o + 2) 0).toNat * 256 + (b.getD (o + 3) 0).toNat
/-- The next word behind t words, 16 or more. -/
def nxt (ws : List Nat) (t : Nat) : Nat := (ss1 (ws.getD (t - 2) 0) + ws.getD (t - 7) 0 + ss0 (ws.getD (t - 15) 0) + ws.getD (t - 16) 0) % 4294967296
/-- The first t words of the block at the head of b. -/
def sch (b : List Int) : Nat → List Nat
  | 0 => []
  | t + 1 => sch b t ++ [if t < 16 then wd b (4 * t) else nxt (sch b t) t]
def rnds (ws : List Nat) (s : St) : Nat → St
  | 0 => s
  | t + 1 => rnd (rnds ws s t) (kTab.getD t 0) (ws.getD t 0)
def St.add (s u : St) : St := ⟨(s.a + u.a) % 4294967296, (s.b + u.b) % 4294967296, (s.c + u.c) % 4294967296, (s.d + u.d) % 4294967296, (s.e + u.e) % 4294967296, (s.f + u.f) % 4294967296, (s.g + u.g) % 4294967296, (s.h + u.h) % 4294967296⟩
def blkS (s : St) (b : List Int) : St := (rnds (sch b 64) s 64).add s
def cmpS (s : St) (b : List Int) : Nat → St
  | 0 => s
  | k + 1 => blkS (cmpS s b k) (b.drop (64 * k))
def h0 : St := ⟨1779033703, 3144134277, 1013904242, 2773480762, 1359893119, 2600822924, 528734635, 1541459225⟩
/-- The lowest k bytes of n, the most significant first. -/
def beN (n : Nat) : Nat → List Int
  | 0 => []
  | k + 1 => ((n / 256 ^ k % 256 : Nat) : Int) :: beN n k
def outL (s : St) : List Int := s.l.flatMap fun x => beN x 4
/-- How many zero bytes stand behind the marker. -/
def zer (n : Nat) : Nat := (119 - n % 64) % 64
def tailL (rest : List Int) (n : Nat) : List Int := rest ++ [128] ++ List.replicate (zer rest.length) 0 ++ beN (8 * n) 8
def sumL (m : List Int) : List Int := outL (cmpS h0 (tailL m m.length) ((tailL m m.length).length / 64))

end Go.Proofs.YtgomconcfjllcaaDoor.Dig
