/- Parity by plain lists: a string is repaired just if it makes the parity, and what a group's parity repairs. -/
import Derived.Test.YtacllaeccdgnmaaPaPlain
namespace Go.Proofs.Ytacllaeccdgnmaa.paP
set_option maxRecDepth 100000
open Go.RowKit
set_option linter.unusedVariables false

theorem two_front {m : List Int} (h : 2 ≤ m.length) : m = m.getD 0 0 :: m.getD 1 0 :: m.drop 2 := by
  match m, h with
  | x :: y :: r, _ => rfl
/-- A row with a length in front and only zeros behind is a frame. -/
theorem fr_of {m : List Int} {W : Nat} (hm : m.length = W + 2) (hb : Byt m) (hn : lenP m ≤ W) (hz : ∀ z ∈ m.drop (2 + lenP m), z = 0) : m = fr ((m.drop 2).take (lenP m)) W := by
  have hl : ((m.drop 2).take (lenP m)).length = lenP m := by rw [List.length_take, List.length_drop]; omega
  have h0 := hb (m.getD 0 0) (by rw [List.getD_eq_getElem?_getD, List.getElem?_eq_getElem (by omega)]; exact List.getElem_mem _)
  have h1 := hb (m.getD 1 0) (by rw [List.getD_eq_getElem?_getD, List.getElem?_eq_getElem (by omega)]; exact List.getElem_mem _)
  have hd : m.drop (2 + lenP m) = List.replicate (W - lenP m) 0 := by
    refine List.eq_replicate_iff.2 ⟨by rw [List.length_drop]; omega, hz⟩
  unfold fr
  rw [hl]
  have e0 : ((lenP m / 256 : Nat) : Int) = m.getD 0 0 := by unfold lenP; omega
  have e1 : ((lenP m % 256 : Nat) : Int) = m.getD 1 0 := by unfold lenP; omega
  rw [e0, e1, ← hd, ← List.drop_drop, List.take_append_drop]
  exact two_front (by omega)
theorem mixL_swap (w : Nat) (p q : List Int) (l : List (List Int)) : mixL w (mx p q) l = mx p (mixL w q l) := by rw [mx_comm, mixL_out, mx_comm]
/-- What is repaired makes the parity, but for zeros behind. -/
theorem tells_of {l1 l2 : List (List Int)} {t p : List Int} (hp : Byt p) (hb : ∀ s ∈ l1 ++ l2, Byt s) (h : repE (l1 ++ t :: l2) (l1.length : Int) p = 0) :
    ∃ s, repV (l1 ++ t :: l2) (l1.length : Int) p = s ∧ Byt s ∧ 2 ≤ p.length ∧ s.length ≤ p.length - 2 ∧ wd (l1 ++ s :: l2) ≤ p.length - 2 ∧ p = parP (l1 ++ s :: l2) ++ List.replicate (p.length - 2 - wd (l1 ++ s :: l2)) 0 := by
  have ho : oth (l1 ++ t :: l2) (l1.length : Int) = l1 ++ l2 := by
    unfold oth; rw [if_pos (by omega), Int.toNat_natCast, eraseIdx_mid]
  have hv : repV (l1 ++ t :: l2) (l1.length : Int) p = ((madeP (l1 ++ t :: l2) (l1.length : Int) p).drop 2).take (lenP (madeP (l1 ++ t :: l2) (l1.length : Int) p)) := by unfold repV; rw [if_pos h]
  unfold repE at h
  rw [ho] at h
  split at h
  · omega
  split at h
  · omega
  split at h
  · omega
  rename_i h1 h2 h3
  obtain ⟨W, hW⟩ : ∃ W, p.length = W + 2 := ⟨p.length - 2, by omega⟩
  have hwW : wd (l1 ++ l2) ≤ W := by omega
  have hall : ∀ s ∈ l1 ++ l2, Byt s ∧ s.length ≤ W := fun s hs => ⟨hb s hs, Nat.le_trans (wd_le hs) hwW⟩
  have hmd : madeP (l1 ++ t :: l2) (l1.length : Int) p = mixL W p (l1 ++ l2) := by unfold madeP; rw [ho, hW, Nat.add_sub_cancel]
  rw [hmd] at h hv
  have hml : (mixL W p (l1 ++ l2)).length = W + 2 := mixL_len hW fun s hs => (hall s hs).2
  have hmb : Byt (mixL W p (l1 ++ l2)) := mixL_byt (by omega) hp hall
  have h4 : lenP (mixL W p (l1 ++ l2)) ≤ W := by
    rcases Nat.lt_or_ge W (lenP (mixL W p (l1 ++ l2))) with c | c
    · rw [if_pos (by omega)] at h; omega
    · exact c
  rw [if_neg (by omega)] at h
  have h5 : ∀ z ∈ (mixL W p (l1 ++ l2)).drop (2 + lenP (mixL W p (l1 ++ l2))), z = 0 := by
    rcases Classical.em (allz ((mixL W p (l1 ++ l2)).drop (2 + lenP (mixL W p (l1 ++ l2)))) = true) with c | c
    · exact allz_iff.1 c
    · rw [if_neg c] at h; omega
  have hf := fr_of hml hmb h4 h5
  obtain ⟨s, hs⟩ : ∃ s, ((mixL W p (l1 ++ l2)).drop 2).take (lenP (mixL W p (l1 ++ l2))) = s := ⟨_, rfl⟩
  rw [hs] at hv hf
  have hsl : s.length ≤ W := by rw [← hs, List.length_take]; omega
  have hsb : Byt s := fun z hz => hmb z (by rw [← hs] at hz; exact List.mem_of_mem_drop (List.mem_of_mem_take hz))
  have hV : wd (l1 ++ s :: l2) ≤ W := wd_most fun u hu => by
    rcases List.mem_append.1 hu with hu | hu
    · exact (hall u (List.mem_append.2 (.inl hu))).2
    · rcases List.mem_cons.1 hu with rfl | hu
      · exact hsl
      · exact (hall u (List.mem_append.2 (.inr hu))).2
  refine ⟨s, hv, hsb, by omega, by omega, by omega, ?_⟩
  rw [hW, Nat.add_sub_cancel]
  have e1 : mixL W (List.replicate (W + 2) 0) (l1 ++ s :: l2) = p := by
    rw [mixL_mid, ← hf]
    have e2 : mixL W p (l1 ++ l2) = mx p (mixL W (List.replicate (W + 2) 0) (l1 ++ l2)) := by
      rw [← mixL_swap, mx_comm p, mx_zeros hW hp.nn]
    rw [e2, mx_comm, mx_back ?_ hp.nn]
    rw [hW, mixL_len (by simp) fun s hs => (hall s hs).2]
  have e3 := mixL_more hV (l := l1 ++ s :: l2) (p := List.replicate (wd (l1 ++ s :: l2) + 2) 0) (by simp) (fun u hu => wd_le hu)
  rw [List.replicate_append_replicate, show wd (l1 ++ s :: l2) + 2 + (W - wd (l1 ++ s :: l2)) = W + 2 by omega, e1] at e3
  exact e3
/-- A group's parity repairs each one of its strings. -/
theorem repairs_of {l1 l2 : List (List Int)} {s : List Int} (hb : ∀ u ∈ l1 ++ s :: l2, Byt u ∧ u.length ≤ 5000) (hn : (l1 ++ s :: l2).length ≤ 16) (t : List Int) :
    repE (l1 ++ t :: l2) (l1.length : Int) (parP (l1 ++ s :: l2)) = 0 ∧ repV (l1 ++ t :: l2) (l1.length : Int) (parP (l1 ++ s :: l2)) = s := by
  have hW : wd (l1 ++ s :: l2) ≤ 5000 := wd_most fun u hu => (hb u hu).2
  have hs : s.length ≤ wd (l1 ++ s :: l2) := wd_le (by simp)
  have hall : ∀ u ∈ l1 ++ l2, Byt u ∧ u.length ≤ wd (l1 ++ s :: l2) := fun u hu => by
    have hm : u ∈ l1 ++ s :: l2 := by
      rcases List.mem_append.1 hu with h | h
      · exact List.mem_append.2 (.inl h)
      · exact List.mem_append.2 (.inr (List.mem_cons_of_mem _ h))
    exact ⟨(hb u hm).1, wd_le hm⟩
  refine rep_of (parP_len _) hW hs (by simp at hn ⊢; omega) hall t ?_
  unfold parP
  rw [mixL_mid, mixL_out, mixL_back (by omega) (by simp) (zeros_byt _) hall]
  exact mx_zeros (fr_len hs) (fr_byt (hb s (by simp)).1 (by omega)).nn
/-- The parity of one string is its frame. -/
theorem par_one {s : List Int} (h : Byt s) (hl : s.length ≤ 65535) : parP [s] = fr s s.length := by
  have e : wd [s] = s.length := by simp [wd]
  unfold parP
  rw [e, mixL_cons, mixL_nil]
  exact mx_zeros (fr_len (Nat.le_refl _)) (fr_byt h hl).nn
theorem parP_byt {l : List (List Int)} (hb : ∀ u ∈ l, Byt u ∧ u.length ≤ 5000) : Byt (parP l) :=
  mixL_byt (by have := wd_most (n := 5000) fun u hu => (hb u hu).2; omega) (zeros_byt _) fun u hu => ⟨(hb u hu).1, wd_le hu⟩
end Go.Proofs.Ytacllaeccdgnmaa.paP
