/-
  Plain mathematics: SHA-256 over lists of bytes.
  No condition.
-/

namespace Go.Proofs.YtofccgkgjcnfbaaDoor
set_option linter.unusedVariables false
namespace Sh
abbrev W := BitVec 32
/-- The eight words of a hash value. -/
structure S8 where
  a : W
  b : W
  c : W
  d : W
  e : W
  f : W
  g : W
  h : W
def S8.list (s : S8) : List W := [s.a, s.b, s.c, s.d, s.e, s.f, s.g, s.h]
def S8.add (s t : S8) : S8 := ⟨s.a + t.a, s.b + t.b, s.c + t.c, s.d + t.d, s.e + t.e, s.f + t.f, s.g + t.g, s.h + t.h⟩
def KL : List W := [1116352408, 1899447441, 3049323471, 3921009573, 961987163, 1508970993, 2453635748, 2870763221, 3624381080, 310598401, 607225278, 1426881987, 1925078388, 2162078206, 2614888103, 3248222580, 3835390401, 4022224774, 264347078, 604807628, 770255983, 1249150122, 1555081692, 1996064986, 2554220882, 2821834349, 2952996808, 3210313671, 3336571891, 3584528711, 113926993, 338241895, 666307205, 773529912, 1294757372, 1396182291, 1695183700, 1986661051, 2177026350, 2456956037, 2730485921, 2820302411, 3259730800, 3345764771, 3516065817, 3600352804, 4094571909, 275423344, 430227734, 506948616, 659060556, 883997877, 958139571, 1322822218, 1537002063, 1747873779, 1955562222, 2024104815, 2227730452, 2361852424, 2428436474, 2756734187, 3204031479, 3329325298]
def K (t : Nat) : W := KL.getD t 0
def init : S8 := ⟨1779033703, 3144134277, 1013904242, 2773480762, 1359893119, 2600822924, 528734635, 1541459225⟩
def s0 (x : W) : W := x.rotateRight 7 ^^^ x.rotateRight 18 ^^^ (x >>> 3)
def s1 (x : W) : W := x.rotateRight 17 ^^^ x.rotateRight 19 ^^^ (x >>> 10)
def byteAt (b : List UInt8) (i : Nat) : W := BitVec.ofNat 32 (b.getD i 0).toNat
def be (b : List UInt8) (t : Nat) : W := byteAt b (4 * t) <<< 24 ||| byteAt b (4 * t + 1) <<< 16 ||| byteAt b (4 * t + 2) <<< 8 ||| byteAt b (4 * t + 3)
def ext (l : List W) (t : Nat) : W := l.getD (t - 16) 0 + s0 (l.getD (t - 15) 0) + l.getD (t - 7) 0 + s1 (l.getD (t - 2) 0)
/-- The first 16 + n words of a block. -/
def wl (b : List UInt8) : Nat → List W
  | 0 => (List.range 16).map (be b)
  | n + 1 => wl b n ++ [ext (wl b n) (16 + n)]
/-- The 64 words of a block. -/
def sched (b : List UInt8) : List W := wl b 48
def xOf (s : S8) (k w : W) : W := s.h + (s.e.rotateRight 6 ^^^ s.e.rotateRight 11 ^^^ s.e.rotateRight 25) + ((s.e &&& s.f) ^^^ (~~~s.e &&& s.g)) + k + w
def yOf (s : S8) : W := (s.a.rotateRight 2 ^^^ s.a.rotateRight 13 ^^^ s.a.rotateRight 22) + ((s.a &&& s.b) ^^^ (s.a &&& s.c) ^^^ (s.b &&& s.c))
def round (s : S8) (k w : W) : S8 := ⟨xOf s k w + yOf s, s.a, s.b, s.c, s.d + xOf s k w, s.e, s.f, s.g⟩
def rnds (s : S8) (ws : List W) : Nat → S8
  | 0 => s
  | t + 1 => round (rnds s ws t) (K t) (ws.getD t 0)
def compress (s : S8) (b : List UInt8) : S8 := s.add (rnds s (sched b) 64)
/-- The hash value after the first n blocks. -/
def blocks (m : List UInt8) : Nat → S8
  | 0 => init
  | n + 1 => compress (blocks m n) ((m.drop (64 * n)).take 64)
/-- The last byte of a word. -/
def lo8 (x : W) : UInt8 := UInt8.ofNat x.toNat
def bytes4 (x : W) : List UInt8 := [lo8 (x >>> 24), lo8 (x >>> 16), lo8 (x >>> 8), lo8 x]
def S8.bytes (s : S8) : List UInt8 := s.list.flatMap bytes4
/-- The eight bytes of a number. -/
def be8 (n : Nat) : List UInt8 := (List.range 8).map fun i => UInt8.ofNat (n >>> (56 - 8 * i))
/-- How many zero bytes a message of this length gets. -/
def noughts (n : Nat) : Nat := (119 - n % 64) % 64
def tail (n : Nat) : List UInt8 := 128 :: (List.replicate (noughts n) 0 ++ be8 (8 * n))
def pad (m : List UInt8) : List UInt8 := m ++ tail m.length
def sha (m : List UInt8) : List UInt8 := (blocks (pad m) ((pad m).length / 64)).bytes

theorem abc_hash : sha [97, 98, 99] = [0xba,0x78,0x16,0xbf,0x8f,0x01,0xcf,0xea,0x41,0x41,0x40,0xde,0x5d,0xae,0x22,0x23,0xb0,0x03,0x61,0xa3,0x96,0x17,0x7a,0x9c,0xb4,0x10,0xff,0x61,0xf2,0x00,0x15,0xad] := by decide +kernel
end Sh
end Go.Proofs.YtofccgkgjcnfbaaDoor
