/- SHA-1 as a function on lists of numbers. No program. -/
import Derived.WalkKit
namespace Go.Proofs.YtiihafhnaiicoaaDoor.shP
set_option maxRecDepth 100000
open Go.RowKit
set_option linter.unusedVariables false

/-- A word turned left. -/
def rot (x : Int) (k : Nat) : Int := bits .or .u32 (x * 2 ^ k % 4294967296) (x / 2 ^ (32 - k))
def fR (t : Nat) (b c d : Int) : Int :=
  if t < 20 then bits .or .u32 (bits .and .u32 b c) (bits .and .u32 (bits .xor .u32 4294967295 b) d)
  else if t < 40 then bits .xor .u32 (bits .xor .u32 b c) d
  else if t < 60 then bits .or .u32 (bits .or .u32 (bits .and .u32 b c) (bits .and .u32 b d)) (bits .and .u32 c d)
  else bits .xor .u32 (bits .xor .u32 b c) d
def kR (t : Nat) : Int := if t < 20 then 1518500249 else if t < 40 then 1859775393 else if t < 60 then 2400959708 else 3395469782
/-- Five words. -/
structure W5 where
  a : Int
  b : Int
  c : Int
  d : Int
  e : Int
deriving DecidableEq
def add32 (x y : Int) : Int := (x + y) % 4294967296
def rnd (x : Int) (t : Nat) (v : W5) : W5 := ⟨add32 (add32 (add32 (add32 (rot v.a 5) (fR t v.b v.c v.d)) v.e) (kR t)) x, v.a, rot v.b 30, v.c, v.d⟩
def rnds (W : List Int) : Nat → W5 → W5
  | 0, v => v
  | k + 1, v => rnd (W.getD k 0) k (rnds W k v)
def addW (h v : W5) : W5 := ⟨add32 h.a v.a, add32 h.b v.b, add32 h.c v.c, add32 h.d v.d, add32 h.e v.e⟩
def w16 (b : List Int) (t : Nat) : Int := ((b.getD (4 * t) 0 * 256 + b.getD (4 * t + 1) 0) * 256 + b.getD (4 * t + 2) 0) * 256 + b.getD (4 * t + 3) 0
def nxt (l : List Int) (t : Nat) : Int := rot (bits .xor .u32 (bits .xor .u32 (bits .xor .u32 (l.getD (t - 3) 0) (l.getD (t - 8) 0)) (l.getD (t - 14) 0)) (l.getD (t - 16) 0)) 1
/-- The first words of the schedule of a block. -/
def sch (b : List Int) : Nat → List Int
  | 0 => []
  | t + 1 => sch b t ++ [if t < 16 then w16 b t else nxt (sch b t) t]
def dn (h : W5) (b : List Int) : W5 := addW h (rnds (sch b 80) 80 h)
/-- Some blocks, one behind the other. -/
def blks (l : List Int) : Nat → W5 → W5
  | 0, h => h
  | k + 1, h => dn (blks l k h) ((l.drop (64 * k)).take 64)
def first : W5 := ⟨1732584193, 4023233417, 2562383102, 271733878, 3285377520⟩
def zerosN (n : Nat) : Nat := (119 - n % 64) % 64
def len8 (n : Nat) : List Int := (List.range 8).map fun (i : Nat) => (8 * (n : Int)) / 2 ^ (8 * (7 - i)) % 256
def padL (n : Nat) : List Int := 128 :: (List.replicate (zerosN n) 0 ++ len8 n)
def wbytes (h : W5) : List Int := ([h.a, h.b, h.c, h.d, h.e].map fun x => [x / 16777216 % 256, x / 65536 % 256, x / 256 % 256, x % 256]).flatten
def digest (b : List Int) : List Int := wbytes (blks (b ++ padL b.length) ((b.length + (padL b.length).length) / 64) first)
end Go.Proofs.YtiihafhnaiicoaaDoor.shP
