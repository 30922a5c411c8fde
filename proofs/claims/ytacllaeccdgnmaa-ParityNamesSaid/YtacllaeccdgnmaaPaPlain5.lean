/- Parity by plain lists: the laws in terms of an index. -/
import Derived.Test.YtacllaeccdgnmaaPaPlain4
namespace Go.Proofs.Ytacllaeccdgnmaa.paP
set_option maxRecDepth 100000
open Go.RowKit
set_option linter.unusedVariables false
theorem set_mid {α : Type} (l1 l2 : List α) (s t : α) : (l1 ++ t :: l2).set l1.length s = l1 ++ s :: l2 := by
  rw [List.set_append_right _ _ (Nat.le_refl _), Nat.sub_self, List.set_cons_zero]
theorem parts_at {α : Type} (l : List α) (k : Nat) (hk : k < l.length) : ∃ l1 l2 t, l = l1 ++ t :: l2 ∧ l1.length = k ∧ l[k] = t := ⟨l.take k, l.drop (k + 1), l[k], split_at l k hk, by rw [List.length_take]; omega, rfl⟩
theorem tells_at {l : List (List Int)} {k : Nat} {p : List Int} (hk : k < l.length) (hp : Byt p) (hb : ∀ s ∈ l, Byt s) (h : repE l (k : Int) p = 0) :
    ∃ s, repV l (k : Int) p = s ∧ Byt s ∧ 2 ≤ p.length ∧ s.length ≤ p.length - 2 ∧ wd (l.set k s) ≤ p.length - 2 ∧ p = parP (l.set k s) ++ List.replicate (p.length - 2 - wd (l.set k s)) 0 := by
  obtain ⟨l1, l2, t, rfl, rfl, -⟩ := parts_at l k hk
  obtain ⟨s, h1, h2, h3, h4, h5, h6⟩ := tells_of hp (fun s hs => hb s (by
    rcases List.mem_append.1 hs with h | h
    · exact List.mem_append.2 (.inl h)
    · exact List.mem_append.2 (.inr (List.mem_cons_of_mem _ h)))) h
  exact ⟨s, h1, h2, h3, h4, by rw [set_mid]; exact h5, by rw [set_mid]; exact h6⟩
theorem repairs_at {l : List (List Int)} {k : Nat} (hk : k < l.length) (hb : ∀ u ∈ l, Byt u ∧ u.length ≤ 5000) (hn : l.length ≤ 16) (t : List Int) :
    repE (l.set k t) (k : Int) (parP l) = 0 ∧ repV (l.set k t) (k : Int) (parP l) = l.getD k [] := by
  obtain ⟨l1, l2, s, rfl, rfl, -⟩ := parts_at l k hk
  rw [set_mid]
  have e : (l1 ++ s :: l2).getD l1.length [] = s := by simp [List.getD_eq_getElem?_getD]
  rw [e]
  exact repairs_of hb hn t
theorem oth_len (l : List (List Int)) (k : Int) : (oth l k).length ≤ l.length := othR_len l k
theorem oth_wd (l : List (List Int)) (k : Int) : wd (oth l k) ≤ wd l := wd_most fun s hs => wd_le (othR_mem hs)
theorem gE_oth {l : List (List Int)} (k : Int) (h : gE l = 0) : gE (oth l k) = 0 := by
  unfold gE at *
  have h1 := oth_len l k
  have h2 := oth_wd l k
  split at h
  · omega
  · rw [if_neg (by omega)]
theorem repE_two {l : List (List Int)} {k : Nat} (p : List Int) (hk : k < l.length) (h : gE l = 0) : repE l (k : Int) p = 0 ∨ repE l (k : Int) p = 12 := by
  unfold repE
  rw [if_neg (by rw [gE_oth _ h]; simp), if_neg (by omega)]
  split
  · exact .inr rfl
  · split
    · exact .inr rfl
    · split
      · exact .inl rfl
      · exact .inr rfl
theorem gE_set {l : List (List Int)} {k : Nat} {s : List Int} (h : gE l = 0) (hs : s.length ≤ 5000) : gE (l.set k s) = 0 := by
  unfold gE at *
  split at h
  · omega
  · rename_i hh
    have h2 : wd (l.set k s) ≤ 5000 := wd_most fun u hu => by
      rcases List.mem_or_eq_of_mem_set hu with hu | rfl
      · have := wd_le hu; omega
      · exact hs
    rw [if_neg (by rw [List.length_set]; omega)]
theorem getD_app_l {a b : List Int} {i : Nat} (h : i < a.length) : (a ++ b).getD i 0 = a.getD i 0 := by
  simp [List.getD_eq_getElem?_getD, List.getElem?_append_left h]
theorem getD_app_z {a : List Int} {i n : Nat} (h : a.length ≤ i) : (a ++ List.replicate n 0).getD i 0 = 0 := by
  rw [List.getD_eq_getElem?_getD, List.getElem?_append_right h, List.getElem?_replicate]
  split <;> rfl
end Go.Proofs.Ytacllaeccdgnmaa.paP
