/- Several texts as one: ShPlain, Bits, ShPlain2, ShPlain3. -/
import Derived.WalkKit
namespace Go.Proofs.YtiihafhnaiicoaaDoor.shP
set_option maxRecDepth 100000
open Go.RowKit
set_option linter.unusedVariables false

/-- A word turned left. -/
def rot (x : Int) (k : Nat) : Int := bits .or .u32 (x * 2 ^ k % 4294967296) (x / 2 ^ (32 - k))
def fR (t : Nat) (b c d : Int) : Int :=
  if t < 20 then bits .or .u32 (bits .and .u32 b c) (bits .and .u32 (bits .xor .u32 4294967295 b) d)
  else if t < 40 then bits .xor .u32 (bits .xor .u32 b c) d
  else if t < 60 then bits .or .u32 (bits .or .u32 (bits .and .u32 b c) (bits .and .u32 b d)) (bits .and .u32 c d)
  else bits .xor .u32 (bits .xor .u32 b c) d
def kR (t : Nat) : Int := if t < 20 then 1518500249 else if t < 40 then 1859775393 else if t < 60 then 2400959708 else 3395469782
/-- Five words. -/
structure W5 where
  a : Int
  b : Int
  c : Int
  d : Int
  e : Int
deriving DecidableEq
def add32 (x y : Int) : Int := (x + y) % 4294967296
def rnd (x : Int) (t : Nat) (v : W5) : W5 := ⟨add32 (add32 (add32 (add32 (rot v.a 5) (fR t v.b v.c v.d)) v.e) (kR t)) x, v.a, rot v.b 30, v.c, v.d⟩
def rnds (W : List Int) : Nat → W5 → W5
  | 0, v => v
  | k + 1, v => rnd (W.getD k 0) k (rnds W k v)
def addW (h v : W5) : W5 := ⟨add32 h.a v.a, add32 h.b v.b, add32 h.c v.c, add32 h.d v.d, add32 h.e v.e⟩
def w16 (b : List Int) (t : Nat) : Int := ((b.getD (4 * t) 0 * 256 + b.getD (4 * t + 1) 0) * 256 + b.getD (4 * t + 2) 0) * 256 + b.getD (4 * t + 3) 0
def nxt (l : List Int) (t : Nat) : Int := rot (bits .xor .u32 (bits .xor .u32 (bits .xor .u32 (l.getD (t - 3) 0) (l.getD (t - 8) 0)) (l.getD (t - 14) 0)) (l.getD (t - 16) 0)) 1
/-- The first words of the schedule of a block. -/
def sch (b : List Int) : Nat → List Int
  | 0 => []
  | t + 1 => sch b t ++ [if t < 16 then w16 b t else nxt (sch b t) t]
def dn (h : W5) (b : List Int) : W5 := addW h (rnds (sch b 80) 80 h)
/-- Some blocks, one behind the other. -/
def blks (l : List Int) : Nat → W5 → W5
  | 0, h => h
  | k + 1, h => dn (blks l k h) ((l.drop (64 * k)).take 64)
def first : W5 := ⟨1732584193, 4023233417, 2562383102, 271733878, 3285377520⟩
def zerosN (n : Nat) : Nat := (119 - n % 64) % 64
def len8 (n : Nat) : List Int := (List.range 8).map fun (i : Nat) => (8 * (n : Int)) / 2 ^ (8 * (7 - i)) % 256
def padL (n : Nat) : List Int := 128 :: (List.replicate (zerosN n) 0 ++ len8 n)
def wbytes (h : W5) : List Int := ([h.a, h.b, h.c, h.d, h.e].map fun x => [x / 16777216 % 256, x / 65536 % 256, x / 256 % 256, x % 256]).flatten
def digest (b : List Int) : List Int := wbytes (blks (b ++ padL b.length) ((b.length + (padL b.length).length) / 64) first)
end Go.Proofs.YtiihafhnaiicoaaDoor.shP

namespace Go.Proofs.YtiihafhnaiicoaaDoor.base
set_option maxRecDepth 100000
open Go.RowKit

theorem toNat_ofInt (w : Nat) (n : Int) : ((BitVec.ofInt w n).toNat : Int) = n % 2 ^ w := by
  rw [BitVec.toNat_ofInt]
  have h : (0 : Int) < 2 ^ w := Int.pow_pos (by omega)
  have : ((2 ^ w : Nat) : Int) = 2 ^ w := by simp
  rw [this]
  exact Int.toNat_of_nonneg (Int.emod_nonneg _ (by omega))

theorem mod_mod_pow (n : Int) {i w : Nat} (h : i ≤ w) : n % 2 ^ w % 2 ^ i = n % 2 ^ i := by
  apply Int.emod_emod_of_dvd
  exact ⟨2 ^ (w - i), by rw [← Int.pow_add, Nat.add_sub_cancel' h]⟩

theorem mask_toNat (w : Nat) (n : Int) (i : Nat) (hi : i ≤ w) : (((BitVec.ofInt w n) &&& (BitVec.ofInt w (2 ^ i - 1))).toNat : Int) = n % 2 ^ i := by
  have hp : 0 < 2 ^ i := Nat.two_pow_pos i
  have hc : ((2 : Int) ^ i - 1) = ((2 ^ i - 1 : Nat) : Int) := by rw [Int.natCast_sub hp]; simp
  have hlt : 2 ^ i - 1 < 2 ^ w := Nat.lt_of_lt_of_le (Nat.sub_lt hp (by omega)) (Nat.pow_le_pow_right (by omega) hi)
  rw [BitVec.toNat_and, hc, BitVec.ofInt_natCast, BitVec.toNat_ofNat, Nat.mod_eq_of_lt hlt, Nat.and_two_pow_sub_one_eq_mod]
  have := toNat_ofInt w n
  have h2 : (((BitVec.ofInt w n).toNat % 2 ^ i : Nat) : Int) = ((BitVec.ofInt w n).toNat : Int) % 2 ^ i := by simp
  rw [h2, this, mod_mod_pow n hi]

/-- 'n & (2^i - 1)' of a signed number. -/
theorem and_mask64 (n : Int) (i : Nat) (hi : i ≤ 62) (m : Int) (hm : m = 2 ^ i - 1) : bits .and .i64 n m = n % 2 ^ i := by
  subst hm
  show IntKind.i64.wrap (((BitVec.ofInt 64 n) &&& (BitVec.ofInt 64 (2 ^ i - 1))).toNat : Int) = _
  rw [mask_toNat 64 n i (by omega), IntKind.wrap_i64]
  have h0 : 0 ≤ n % 2 ^ i := Int.emod_nonneg _ (Int.ne_of_gt (Int.pow_pos (by omega)))
  have h1 : n % 2 ^ i < 2 ^ i := Int.emod_lt_of_pos _ (Int.pow_pos (by omega))
  have h2 : (2 : Int) ^ i ≤ 2 ^ 62 := by
    have : (2 : Nat) ^ i ≤ 2 ^ 62 := Nat.pow_le_pow_right (by omega) hi
    exact_mod_cast this
  have h3 : (2 : Int) ^ 62 = 4611686018427387904 := by decide
  omega
theorem and_mask32 (n : Int) (i : Nat) (hi : i ≤ 30) (m : Int) (hm : m = 2 ^ i - 1) : bits .and .i32 n m = n % 2 ^ i := by
  subst hm
  show IntKind.i32.wrap (((BitVec.ofInt 32 n) &&& (BitVec.ofInt 32 (2 ^ i - 1))).toNat : Int) = _
  rw [mask_toNat 32 n i (by omega), IntKind.wrap_i32]
  have h0 : 0 ≤ n % 2 ^ i := Int.emod_nonneg _ (Int.ne_of_gt (Int.pow_pos (by omega)))
  have h1 : n % 2 ^ i < 2 ^ i := Int.emod_lt_of_pos _ (Int.pow_pos (by omega))
  have h2 : (2 : Int) ^ i ≤ 2 ^ 30 := by
    have : (2 : Nat) ^ i ≤ 2 ^ 30 := Nat.pow_le_pow_right (by omega) hi
    exact_mod_cast this
  have h3 : (2 : Int) ^ 30 = 1073741824 := by decide
  omega

/-- 'h<<32 | l' of a signed number. -/
theorem or_join64 (h l : Int) (h1 : -2147483648 ≤ h) (h2 : h ≤ 2147483647) (l1 : 0 ≤ l) (l2 : l ≤ 4294967295) : bits .or .i64 (h * 4294967296) l = h * 4294967296 + l := by
  obtain ⟨b, rfl⟩ := Int.eq_ofNat_of_zero_le l1
  have hb : b < 4294967296 := by omega
  obtain ⟨a, ha⟩ := Int.eq_ofNat_of_zero_le (Int.emod_nonneg h (show (4294967296 : Int) ≠ 0 by omega))
  have hab : a < 4294967296 := by omega
  have e : (BitVec.ofInt 64 (h * 4294967296)).toNat = 2 ^ 32 * a := by
    have := toNat_ofInt 64 (h * 4294967296)
    have p : (2 : Int) ^ 64 = 18446744073709551616 := by decide
    rw [p] at this
    have q : (2 : Nat) ^ 32 = 4294967296 := by decide
    rw [q]
    omega
  have e2 : (BitVec.ofInt 64 (b : Int)).toNat = b := by
    rw [BitVec.ofInt_natCast, BitVec.toNat_ofNat]
    exact Nat.mod_eq_of_lt (Nat.lt_of_lt_of_le hb (by decide))
  show IntKind.i64.wrap (((BitVec.ofInt 64 (h * 4294967296)) ||| (BitVec.ofInt 64 (b : Int))).toNat : Int) = _
  rw [BitVec.toNat_or, e, e2, ← Nat.two_pow_add_eq_or_of_lt (show b < 2 ^ 32 from hb) a, IntKind.wrap_i64]
  have q : (2 : Nat) ^ 32 = 4294967296 := by decide
  rw [q]
  omega
end Go.Proofs.YtiihafhnaiicoaaDoor.base

namespace Go.Proofs.YtiihafhnaiicoaaDoor.shP
set_option maxRecDepth 100000
open Go.RowKit
set_option linter.unusedVariables false

/-- The last k of the eight bytes of a padding, zeros ahead of them. -/
def lenK (n k : Nat) : List Int := (List.range 8).map fun (i : Nat) => if 7 - i < k then (8 * (n : Int)) / 2 ^ (8 * (7 - i)) % 256 else 0
def pK (n k : Nat) : List Int := 128 :: (List.replicate (zerosN n) 0 ++ lenK n k)
theorem lenK_0 (n : Nat) : lenK n 0 = List.replicate 8 0 := by unfold lenK; simp; rfl
theorem lenK_8 (n : Nat) : lenK n 8 = len8 n := by
  unfold lenK len8
  apply List.map_congr_left
  intro i hi
  rw [if_pos (by omega)]
theorem lenK_set (n k : Nat) (h : k < 8) (x : Int) (hx : x = 8 * (n : Int) / 2 ^ (8 * k) % 256) : (lenK n k).set (7 - k) x = lenK n (k + 1) := by
  subst hx
  apply List.ext_getElem
  · simp [lenK]
  · intro i h1 h2
    simp [lenK] at h1
    simp only [lenK, List.getElem_set, List.getElem_map, List.getElem_range]
    by_cases c : 7 - k = i
    · subst c
      rw [if_pos rfl, if_pos (by omega), show 7 - (7 - k) = k by omega]
    · rw [if_neg c]
      by_cases c2 : 7 - i < k
      · rw [if_pos c2, if_pos (by omega)]
      · rw [if_neg c2, if_neg (by omega)]
theorem pK_0 (n : Nat) : pK n 0 = (List.replicate (zerosN n + 9) (0 : Int)).set 0 128 := by
  rw [pK, lenK_0, List.replicate_append_replicate, show zerosN n + 9 = (zerosN n + 8) + 1 from rfl, List.replicate_succ (n := zerosN n + 8), List.set_cons_zero]
theorem pK_8 (n : Nat) : pK n 8 = padL n := by rw [pK, lenK_8, padL]
theorem pK_len (n k : Nat) : (pK n k).length = zerosN n + 9 := by simp [pK, lenK]
theorem pK_set (n k : Nat) (h : k < 8) (x : Int) (hx : x = 8 * (n : Int) / 2 ^ (8 * k) % 256) (j : Nat) (hj : j = zerosN n + 8 - k) : (pK n k).set j x = pK n (k + 1) := by
  obtain ⟨i, rfl⟩ : ∃ i, j = i + 1 := ⟨j - 1, by omega⟩
  rw [pK, List.set_cons_succ, List.set_append_right _ _ (by simp; omega), List.length_replicate, show i - zerosN n = 7 - k by omega, lenK_set n k h x hx, pK]
theorem padL_len (n : Nat) : (padL n).length = zerosN n + 9 := by rw [← pK_8, pK_len]
theorem zerosN_lt (n : Nat) : zerosN n < 64 := by unfold zerosN; omega
theorem pad_64 (n : Nat) : (n + (padL n).length) % 64 = 0 := by rw [padL_len]; unfold zerosN; omega
theorem padL_bd (n : Nat) : ∀ z ∈ padL n, 0 ≤ z ∧ z ≤ 255 := by
  intro z hz
  simp only [padL, len8, List.mem_cons, List.mem_append, List.mem_replicate, List.mem_map] at hz
  rcases hz with rfl | ⟨_, rfl⟩ | ⟨i, _, rfl⟩ <;> omega
end Go.Proofs.YtiihafhnaiicoaaDoor.shP

namespace Go.Proofs.YtiihafhnaiicoaaDoor.shP
set_option maxRecDepth 100000
open Go.RowKit
set_option linter.unusedVariables false
theorem blks_left (l r : List Int) (h : W5) : ∀ m, 64 * m ≤ l.length → blks (l ++ r) m h = blks l m h
  | 0, _ => rfl
  | m + 1, hm => by
    have e : ((l ++ r).drop (64 * m)).take 64 = (l.drop (64 * m)).take 64 := by
      rw [List.drop_append_of_le_length (by omega), List.take_append_of_le_length (by rw [List.length_drop]; omega)]
    simp only [blks]
    rw [e, blks_left l r h m (by omega)]
theorem blks_right (l r : List Int) (h : W5) (m : Nat) (hl : l.length = 64 * m) : ∀ k, blks (l ++ r) (m + k) h = blks r k (blks l m h)
  | 0 => blks_left l r h m (by omega)
  | k + 1 => by
    have e : ((l ++ r).drop (64 * (m + k))).take 64 = (r.drop (64 * k)).take 64 := by
      rw [show 64 * (m + k) = l.length + 64 * k by omega, List.drop_append, List.drop_of_length_le (by omega)]
      simp
    show dn (blks (l ++ r) (m + k) h) (((l ++ r).drop (64 * (m + k))).take 64) = _
    rw [e, blks_right l r h m hl k]
    rfl
/-- A digest: whole blocks first, then the rest and the padding. -/
theorem digest_cut (b : List Int) (m : Nat) (hm : 64 * m = b.length - b.length % 64) : digest b = wbytes (blks (b.drop (64 * m) ++ padL b.length) ((b.length % 64 + (padL b.length).length) / 64) (blks (b.take (64 * m)) m first)) := by
  have hl : (b.take (64 * m)).length = 64 * m := by rw [List.length_take]; omega
  have e : b ++ padL b.length = b.take (64 * m) ++ (b.drop (64 * m) ++ padL b.length) := by rw [← List.append_assoc, List.take_append_drop]
  have e2 : (b.length + (padL b.length).length) / 64 = m + (b.length % 64 + (padL b.length).length) / 64 := by omega
  rw [digest, e2, e, blks_right _ _ _ _ hl]
theorem rest_64 (n : Nat) : ∃ k, n % 64 + (zerosN n + 9) = 64 * k ∧ k ≤ 2 := by
  have := pad_64 n
  rw [padL_len] at this
  have := zerosN_lt n
  exact ⟨(n % 64 + (zerosN n + 9)) / 64, by omega, by omega⟩
end Go.Proofs.YtiihafhnaiicoaaDoor.shP
