/- Plain facts on words: the letters at the end of some bytes. -/
import Derived.Test.YtpggdijhfdddpaaDoorCxPl2
namespace Go.Proofs.YtpggdijhfdddpaaDoor.cxP
open Go.RowKit Go.Proofs.YtpggdijhfdddpaaDoor.base Go.Proofs.YtpggdijhfdddpaaDoor.rgP Go.Proofs.YtpggdijhfdddpaaDoor.rgW
set_option linter.unusedVariables false
/-- At most k letters in front, small. -/
def twR : Nat → List Int → List Int
  | 0, _ => []
  | _ + 1, [] => []
  | k + 1, x :: l => if letB x then low x :: twR k l else []
def tw (l : List Int) : List Int := (twR 16 l.reverse).reverse
theorem twR_len : ∀ k l, (twR k l).length ≤ k
  | 0, _ => by simp [twR]
  | k + 1, [] => by simp [twR]
  | k + 1, x :: l => by
    unfold twR
    split
    · simp; exact twR_len k l
    · simp
theorem tw_len (l : List Int) : (tw l).length ≤ 16 := by unfold tw; rw [List.length_reverse]; exact twR_len _ _
theorem sf_tw (l : List Int) : ∀ k, k ≤ l.length → ((l.take k).drop (sf l l.length k)).map low = (twR (16 - (l.length - k)) (l.take k).reverse).reverse
  | 0, _ => by
    simp [sf]
    cases 16 - l.length <;> rfl
  | k + 1, h => by
    have ih := sf_tw l k (by omega)
    have ht : l.take (k + 1) = l.take k ++ [l.getD k 0] := by rw [List.take_succ_eq_append_getElem (by omega), List.getD_eq_getElem?_getD, List.getElem?_eq_getElem (by omega)]; rfl
    have hlen : (l.take k).length = k := by simp; omega
    rw [ht, List.reverse_append, List.reverse_singleton, List.singleton_append]
    unfold sf
    by_cases h1 : l.length - (k + 1) < 16
    · have e : 16 - (l.length - (k + 1)) = (16 - (l.length - k)) + 1 := by omega
      rw [e]
      unfold twR
      by_cases h2 : letB (l.getD k 0) = true
      · rw [if_pos ⟨h1, h2⟩, if_pos h2, List.reverse_cons, ← ih, List.drop_append_of_le_length (by rw [hlen]; exact sf_le _ _ _), List.map_append]
        rfl
      · rw [if_neg (fun h => h2 h.2), if_neg h2, List.drop_of_length_le (by simp; omega)]
        rfl
    · have e : 16 - (l.length - (k + 1)) = 0 := by omega
      rw [e, if_neg (fun h => h1 h.1), List.drop_of_length_le (by simp; omega)]
      rfl
theorem spelt_tw (l : List Int) : speltL l = tw l := by
  have := sf_tw l l.length (Nat.le_refl _)
  rw [List.take_length] at this
  unfold speltL tw
  rw [this, Nat.sub_self]
theorem twR_zeros (j : Nat) : ∀ k l, twR k (l ++ List.replicate j 0) = twR k l
  | 0, _ => by simp [twR]
  | k + 1, [] => by
    cases j with
    | zero => rfl
    | succ j => rfl
  | k + 1, x :: l => by
    rw [List.cons_append]
    unfold twR
    rw [twR_zeros j k l]
theorem twR_take : ∀ k j l, k ≤ j → twR k (l.take j) = twR k l
  | 0, _, _, _ => by simp [twR]
  | k + 1, j, [], _ => by simp
  | k + 1, 0, x :: l, h => by omega
  | k + 1, j + 1, x :: l, h => by
    rw [List.take_succ_cons]
    unfold twR
    rw [twR_take k j l (by omega)]
theorem twR_cut : ∀ k l, twR k l = (twR (k + 1) l).take k
  | 0, _ => by simp [twR]
  | k + 1, [] => by simp [twR]
  | k + 1, x :: l => by
    show (if letB x then low x :: twR k l else []) = (if letB x then low x :: twR (k + 1) l else []).take (k + 1)
    split
    · rw [List.take_succ_cons, ← twR_cut k l]
    · rfl
def turn (x : Int) : Int := if letB x then bits .xor .u8 x 32 else x
theorem turn_all : ∀ n : Nat, n < 256 → letB (turn n) = letB n ∧ (letB n = true → low (turn n) = low n) ∧ 0 ≤ turn n ∧ turn n ≤ 255 := by decide +kernel
theorem turn_ok {x : Int} (h : 0 ≤ x ∧ x ≤ 255) : letB (turn x) = letB x ∧ (letB x = true → low (turn x) = low x) ∧ 0 ≤ turn x ∧ turn x ≤ 255 := by
  obtain ⟨n, rfl⟩ : ∃ n : Nat, x = n := ⟨x.toNat, by omega⟩
  exact turn_all n (by omega)
theorem twR_turn : ∀ k l, (∀ z ∈ l, 0 ≤ z ∧ z ≤ 255) → twR k (l.map turn) = twR k l
  | 0, _, _ => by simp [twR]
  | k + 1, [], _ => rfl
  | k + 1, x :: l, h => by
    obtain ⟨h1, h2, -, -⟩ := turn_ok (h x (by simp))
    rw [List.map_cons]
    show (if letB (turn x) then low (turn x) :: twR k (l.map turn) else []) = if letB x then low x :: twR k l else []
    rw [h1, twR_turn k l (fun z hz => h z (by simp [hz]))]
    split
    · rename_i hx
      rw [h2 hx]
    · rfl
theorem tw_turn (l : List Int) (h : ∀ z ∈ l, 0 ≤ z ∧ z ≤ 255) : tw (l.map turn) = tw l := by
  unfold tw
  rw [← List.map_reverse, twR_turn 16 _ (fun z hz => h z (List.mem_reverse.1 hz))]
theorem turn_bd {l : List Int} (h : ∀ z ∈ l, 0 ≤ z ∧ z ≤ 255) : ∀ z ∈ l.map turn, 0 ≤ z ∧ z ≤ 255 := by
  intro z hz
  obtain ⟨y, hy, rfl⟩ := List.mem_map.1 hz
  exact (turn_ok (h y hy)).2.2
theorem tw_no (b : List Int) {c : Int} (h : letB c = false) : tw (b ++ [c]) = [] := by
  unfold tw
  rw [List.reverse_append, List.reverse_singleton, List.singleton_append, twR, if_neg (by rw [h]; simp)]
  rfl
theorem tw_yes (b : List Int) {c : Int} (h : letB c = true) : tw (b ++ [c]) = (tw b ++ [low c]).drop ((tw b).length + 1 - 16) := by
  have e : tw (b ++ [c]) = (twR 15 b.reverse).reverse ++ [low c] := by
    unfold tw
    rw [List.reverse_append, List.reverse_singleton, List.singleton_append, twR, if_pos h, List.reverse_cons]
  have hl := tw_len b
  have e2 : (twR 15 b.reverse).reverse = (tw b).drop ((tw b).length - 15) := by
    unfold tw
    rw [twR_cut 15, List.reverse_take, List.length_reverse]
  rw [e, e2, show (tw b).length + 1 - 16 = (tw b).length - 15 by omega, List.drop_append_of_le_length (by omega)]
theorem last16 {l : Int} (hl : lvB l = true) (bs : List Int) (hm : bs.length ≤ 700) : lastL (putR (newR l) bs) 16 = (List.replicate 16 0 ++ bs).drop bs.length := by
  obtain ⟨-, -, -, hn, -⟩ := put_new hl bs hm
  have hs := (sz_bd hl).1
  refine getD_ext (by simp only [cxP.last_len, List.length_drop, List.length_append, List.length_replicate]; omega) fun i hi => ?_
  have hi : i < 16 := by rw [cxP.last_len] at hi; exact hi
  rw [last_at _ 16 i hi, List.getD_eq_getElem?_getD, List.getElem?_drop, show ((16 : Nat) : Int) - i = ((16 - i : Nat) : Int) by omega]
  by_cases c : 16 - i ≤ bs.length
  · rw [ago_put hl bs (16 - i) (by omega) (by omega) c, List.getElem?_append_right (by simp; omega), List.getD_eq_getElem?_getD]
    congr 2
    simp
    omega
  · rw [List.getElem?_append_left (by simp; omega), List.getElem?_replicate, if_pos (by omega), ago, if_pos (by rw [hn]; omega)]
    rfl
theorem word_put {l : Int} (hl : lvB l = true) (bs : List Int) (hm : bs.length ≤ 700) : wordL (lastL (putR (newR l) bs) 16) = tw bs := by
  rw [← spelt_word (by rw [cxP.last_len]; omega), spelt_tw, last16 hl bs hm]
  unfold tw
  rw [List.reverse_drop, List.reverse_append, List.reverse_replicate, twR_take 16 _ _ (by simp only [List.length_append, List.length_replicate]; omega), twR_zeros]
end Go.Proofs.YtpggdijhfdddpaaDoor.cxP
