/- Digests of a string and its padding, cut at a block's end. No program. -/
import Derived.Test.YtiihafhnaiicoaaDoorShPlain2
namespace Go.Proofs.YtiihafhnaiicoaaDoor.shP
set_option maxRecDepth 100000
open Go.RowKit
set_option linter.unusedVariables false
theorem blks_left (l r : List Int) (h : W5) : ∀ m, 64 * m ≤ l.length → blks (l ++ r) m h = blks l m h
  | 0, _ => rfl
  | m + 1, hm => by
    have e : ((l ++ r).drop (64 * m)).take 64 = (l.drop (64 * m)).take 64 := by
      rw [List.drop_append_of_le_length (by omega), List.take_append_of_le_length (by rw [List.length_drop]; omega)]
    simp only [blks]
    rw [e, blks_left l r h m (by omega)]
theorem blks_right (l r : List Int) (h : W5) (m : Nat) (hl : l.length = 64 * m) : ∀ k, blks (l ++ r) (m + k) h = blks r k (blks l m h)
  | 0 => blks_left l r h m (by omega)
  | k + 1 => by
    have e : ((l ++ r).drop (64 * (m + k))).take 64 = (r.drop (64 * k)).take 64 := by
      rw [show 64 * (m + k) = l.length + 64 * k by omega, List.drop_append, List.drop_of_length_le (by omega)]
      simp
    show dn (blks (l ++ r) (m + k) h) (((l ++ r).drop (64 * (m + k))).take 64) = _
    rw [e, blks_right l r h m hl k]
    rfl
/-- A digest: whole blocks first, then the rest and the padding. -/
theorem digest_cut (b : List Int) (m : Nat) (hm : 64 * m = b.length - b.length % 64) : digest b = wbytes (blks (b.drop (64 * m) ++ padL b.length) ((b.length % 64 + (padL b.length).length) / 64) (blks (b.take (64 * m)) m first)) := by
  have hl : (b.take (64 * m)).length = 64 * m := by rw [List.length_take]; omega
  have e : b ++ padL b.length = b.take (64 * m) ++ (b.drop (64 * m) ++ padL b.length) := by rw [← List.append_assoc, List.take_append_drop]
  have e2 : (b.length + (padL b.length).length) / 64 = m + (b.length % 64 + (padL b.length).length) / 64 := by omega
  rw [digest, e2, e, blks_right _ _ _ _ hl]
theorem rest_64 (n : Nat) : ∃ k, n % 64 + (zerosN n + 9) = 64 * k ∧ k ≤ 2 := by
  have := pad_64 n
  rw [padL_len] at this
  have := zerosN_lt n
  exact ⟨(n % 64 + (zerosN n + 9)) / 64, by omega, by omega⟩
end Go.Proofs.YtiihafhnaiicoaaDoor.shP
