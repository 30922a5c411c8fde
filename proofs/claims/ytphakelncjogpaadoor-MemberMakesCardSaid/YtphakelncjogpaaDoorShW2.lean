/- The words of a block, by walks. -/
import Derived.Test.YtphakelncjogpaaDoorShW
namespace Go.Proofs.YtphakelncjogpaaDoor.shW
set_option maxRecDepth 100000
open Go.RowKit Go.Proofs.YtphakelncjogpaaDoor.base Go.Proofs.YtphakelncjogpaaDoor.shP
set_option linter.unusedVariables false
set_option linter.unusedSimpArgs false

/-- 'h * 2^i | l' of words. -/
theorem or_join32 (h l : Int) (i : Nat) (m : Int) (hm : m = 2 ^ i) (h0 : 0 ≤ h) (l0 : 0 ≤ l) (l1 : l < m) (b : h * m + l ≤ 4294967295) : bits .or .u32 (h * m) l = h * m + l := by
  subst hm
  obtain ⟨a, rfl⟩ := Int.eq_ofNat_of_zero_le h0
  obtain ⟨c, rfl⟩ := Int.eq_ofNat_of_zero_le l0
  have hp : 0 < 2 ^ i := Nat.two_pow_pos i
  have e0 : ((a : Int) * 2 ^ i) = ((2 ^ i * a : Nat) : Int) := by rw [Int.natCast_mul, Int.mul_comm]; simp
  have e1 : ((2 : Int) ^ i) = ((2 ^ i : Nat) : Int) := by simp
  rw [e1] at l1
  rw [e0] at b ⊢
  have hl : c < 2 ^ i := by omega
  have hs : 2 ^ i * a + c ≤ 4294967295 := by omega
  have q : (2 : Nat) ^ 32 = 4294967296 := by decide
  show IntKind.u32.wrap (((BitVec.ofInt 32 ((2 ^ i * a : Nat) : Int)) ||| (BitVec.ofInt 32 (c : Int))).toNat : Int) = _
  rw [BitVec.toNat_or, BitVec.ofInt_natCast, BitVec.ofInt_natCast, BitVec.toNat_ofNat, BitVec.toNat_ofNat, Nat.mod_eq_of_lt (by omega), Nat.mod_eq_of_lt (by omega), ← Nat.two_pow_add_eq_or_of_lt hl a, IntKind.wrap_u32]
  omega
theorem or4 {a b c d : Int} (ha : 0 ≤ a ∧ a ≤ 255) (hb : 0 ≤ b ∧ b ≤ 255) (hc : 0 ≤ c ∧ c ≤ 255) (hd : 0 ≤ d ∧ d ≤ 255) :
    bits .or .u32 (bits .or .u32 (bits .or .u32 (a * 16777216) (b * 65536)) (c * 256)) d = ((a * 256 + b) * 256 + c) * 256 + d := by
  rw [or_join32 a (b * 65536) 24 16777216 (by decide) (by omega) (by omega) (by omega) (by omega)]
  rw [show a * 16777216 + b * 65536 = (a * 256 + b) * 65536 by omega, or_join32 (a * 256 + b) (c * 256) 16 65536 (by decide) (by omega) (by omega) (by omega) (by omega)]
  rw [show (a * 256 + b) * 65536 + c * 256 = ((a * 256 + b) * 256 + c) * 256 by omega, or_join32 ((a * 256 + b) * 256 + c) d 8 256 (by decide) (by omega) (by omega) (by omega) (by omega)]
theorem sch_take (b : List Int) : ∀ t u, t ≤ u → (sch b u).take t = sch b t := by
  intro t u h
  induction u with
  | zero => obtain rfl : t = 0 := by omega
            rfl
  | succ u ih =>
    rcases Nat.eq_or_lt_of_le h with e | h2
    · subst e; exact List.take_of_length_le (by rw [sch_len]; exact Nat.le_refl _)
    · rw [sch, List.take_append_of_le_length (by rw [sch_len]; omega), ih (by omega)]
theorem sch_at (b : List Int) (t u : Nat) (h : t < u) : (sch b u).getD t 0 = if t < 16 then w16 b t else nxt (sch b t) t := by
  have e : (sch b u).take (t + 1) = sch b (t + 1) := sch_take b (t + 1) u h
  have e2 : (sch b u).getD t 0 = ((sch b u).take (t + 1)).getD t 0 := by simp [List.getD_eq_getElem?_getD, List.getElem?_take]
  rw [e2, e, sch, List.getD_eq_getElem?_getD, List.getElem?_append_right (by rw [sch_len]; exact Nat.le_refl _), sch_len]
  simp
theorem nxt_any (b : List Int) (t u : Nat) (h : t ≤ u) (h16 : 16 ≤ t) : nxt (sch b u) t = nxt (sch b t) t := by
  have g : ∀ i, i < t → (sch b u).getD i 0 = (sch b t).getD i 0 := fun i hi => by
    rw [sch_at b i u (by omega), sch_at b i t hi]
  unfold nxt
  rw [g (t - 3) (by omega), g (t - 8) (by omega), g (t - 14) (by omega), g (t - 16) (by omega)]
/-- The words so far, zeros behind. -/
def swds (b : List Int) (t : Nat) : List Value := fill (.int .u32 0) ((sch b 80).map (Value.int .u32)) t
theorem swds_len (b : List Int) {t : Nat} (h : t ≤ 80) : (swds b t).length = 80 := by rw [swds, fill_len (by simp [sch_len]; omega)]; simp [sch_len]
theorem swds_at (b : List Int) {t i : Nat} (h : i < t) (ht : t ≤ 80) : (swds b t)[i]? = some (.int .u32 ((sch b 80).getD i 0)) := by
  unfold swds fill
  have e : i < (sch b 80).length := by rw [sch_len]; omega
  rw [List.getElem?_append_left (by simp [sch_len]; omega), List.getElem?_take, if_pos h, List.getElem?_map, List.getD_eq_getElem?_getD, List.getElem?_eq_getElem e]
  rfl
theorem swds_set (b : List Int) {t : Nat} (h : t < 80) (x : Int) (hx : x = (sch b 80).getD t 0) : (swds b t).set t (.int .u32 x) = swds b (t + 1) := by
  have e := fill_set (z := Value.int .u32 0) (l := (sch b 80).map (Value.int .u32)) (k := t) (by simp [sch_len]; omega) (.int .u32 0)
  have e2 : ((sch b 80).map (Value.int .u32)).getD t (.int .u32 0) = .int .u32 x := by
    have h2 : t < (sch b 80).length := by rw [sch_len]; omega
    rw [hx, List.getD_eq_getElem?_getD, List.getElem?_map, List.getD_eq_getElem?_getD, List.getElem?_eq_getElem h2]; rfl
  rw [e2] at e
  exact e
theorem swds_zero (b : List Int) : swds b 0 = List.replicate 80 (.int .u32 0) := by rw [swds, fill_zero]; simp [sch_len]
theorem swds_all (b : List Int) : swds b 80 = (sch b 80).map (Value.int .u32) := by rw [swds, fill_all (by simp [sch_len])]
theorem four_cells {w : World} {B off : Nat} {b : List Int} (h : ∀ i, i < b.length → w.cell? ⟨B, off + i, none⟩ = some (.int .u8 (b.getD i 0))) (hl : b.length = 64) {k : Nat} (hk : k < 16) :
    w.cell? ⟨B, off + 4 * k, none⟩ = some (.int .u8 (b.getD (4 * k) 0)) ∧ w.cell? ⟨B, off + (4 * k + 1), none⟩ = some (.int .u8 (b.getD (4 * k + 1) 0)) ∧ w.cell? ⟨B, off + (4 * k + 2), none⟩ = some (.int .u8 (b.getD (4 * k + 2) 0)) ∧ w.cell? ⟨B, off + (4 * k + 3), none⟩ = some (.int .u8 (b.getD (4 * k + 3) 0)) :=
  ⟨h _ (by omega), h _ (by omega), h _ (by omega), h _ (by omega)⟩
theorem getD_bd {b : List Int} (hb : ∀ z ∈ b, 0 ≤ z ∧ z ≤ 255) (i : Nat) : 0 ≤ b.getD i 0 ∧ b.getD i 0 ≤ 255 := by
  rw [List.getD_eq_getElem?_getD]
  rcases Nat.lt_or_ge i b.length with hi | hi
  · rw [List.getElem?_eq_getElem hi]; exact hb _ (List.getElem_mem hi)
  · rw [List.getElem?_eq_none hi]; simp
end Go.Proofs.YtphakelncjogpaaDoor.shW
