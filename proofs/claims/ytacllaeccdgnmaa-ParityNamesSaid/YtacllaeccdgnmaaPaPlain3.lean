/- Parity by plain lists: how a frame is mixed in byte by byte, and the others taken one by one. -/
import Derived.Test.YtacllaeccdgnmaaPaPlain2
namespace Go.Proofs.Ytacllaeccdgnmaa.paP
set_option maxRecDepth 100000
open Go.RowKit
set_option linter.unusedVariables false
/-- The others, of any list. -/
def othR {α : Type} (l : List α) (k : Int) : List α := if 0 ≤ k then l.eraseIdx k.toNat else l
theorem oth_eq (l : List (List Int)) (k : Int) : oth l k = othR l k := rfl
theorem map_erase {α β : Type} (f : α → β) : ∀ (l : List α) (k : Nat), (l.eraseIdx k).map f = (l.map f).eraseIdx k
  | [], _ => rfl
  | _ :: _, 0 => rfl
  | x :: l, k + 1 => by simp [map_erase f l k]
theorem othR_map {α β : Type} (f : α → β) (l : List α) (k : Int) : (othR l k).map f = othR (l.map f) k := by
  unfold othR
  split
  · rw [map_erase]
  · rfl
theorem othR_len {α : Type} (l : List α) (k : Int) : (othR l k).length ≤ l.length := by
  unfold othR
  split
  · exact List.length_eraseIdx_le ..
  · exact Nat.le_refl _
theorem othR_mem {α : Type} {l : List α} {k : Int} {x : α} (h : x ∈ othR l k) : x ∈ l := by
  unfold othR at h
  split at h
  · exact List.mem_of_mem_eraseIdx h
  · exact h
theorem othR_step {α : Type} (z : α) (l : List α) (k : Int) (q : Nat) (hq : q < l.length) : othR (l.take (q + 1)) k = if (q : Int) = k then othR (l.take q) k else othR (l.take q) k ++ [l.getD q z] := by
  have e : l.take (q + 1) = l.take q ++ [l.getD q z] := by
    rw [List.take_add_one, List.getElem?_eq_getElem hq]
    simp [List.getD_eq_getElem?_getD, List.getElem?_eq_getElem hq]
  have hl : (l.take q).length = q := by rw [List.length_take]; omega
  unfold othR
  rw [e]
  by_cases h0 : 0 ≤ k
  · rw [if_pos h0, if_pos h0]
    obtain ⟨n, rfl⟩ := Int.eq_ofNat_of_zero_le h0
    rw [Int.toNat_natCast]
    by_cases h1 : q = n
    · subst h1
      rw [if_pos rfl, List.eraseIdx_append_of_length_le (by omega), hl, Nat.sub_self, List.eraseIdx_of_length_le (l := l.take q) (by omega)]
      simp
    · rw [if_neg (by omega)]
      by_cases h2 : n < q
      · rw [List.eraseIdx_append_of_lt_length (by omega)]
      · rw [List.eraseIdx_append_of_length_le (by omega), hl, List.eraseIdx_of_length_le (l := l.take q) (by omega), List.eraseIdx_of_length_le (by simp; omega)]
  · rw [if_neg h0, if_neg h0, if_neg (by omega)]

/-- A frame as far as it has been mixed in: the length, and k bytes. -/
def frK (s : List Int) (w k : Nat) : List Int := ((s.length / 256 : Nat) : Int) :: ((s.length % 256 : Nat) : Int) :: (s.take k ++ List.replicate (w - k) 0)
theorem frK_end (s : List Int) (w : Nat) : frK s w s.length = fr s w := by unfold frK fr; rw [List.take_length]
theorem mk_start {zs : List Int} {W : Nat} (s : List Int) (h : zs.length = W + 2) (hb : ∀ z ∈ zs, 0 ≤ z) : (zs.set 0 (xo (zs.getD 0 0) ((s.length / 256 : Nat) : Int))).set 1 (xo (zs.getD 1 0) ((s.length % 256 : Nat) : Int)) = mx zs (frK s W 0) := by
  match zs, h with
  | x :: y :: r, h =>
    have hr : r.length = W := by simpa using h
    have := mx_zeros hr (fun z hz => hb z (by simp [hz]))
    unfold frK mx at *
    simp only [List.take_zero, List.nil_append, Nat.sub_zero, List.zipWith_cons_cons]
    rw [List.zipWith_comm_of_comm (f := xo) xo_comm, this]
    rfl
theorem getD_mx {a b : List Int} {i : Nat} (ha : i < a.length) (hb : i < b.length) : (mx a b).getD i 0 = xo (a.getD i 0) (b.getD i 0) := by
  unfold mx
  simp [List.getD_eq_getElem?_getD, List.getElem?_zipWith, List.getElem?_eq_getElem ha, List.getElem?_eq_getElem hb]
theorem set_mx {a b : List Int} {i : Nat} (x : Int) (ha : i < a.length) (hb : i < b.length) : (mx a b).set i (xo (a.getD i 0) x) = mx a (b.set i x) := by
  unfold mx
  apply List.ext_getElem?
  intro j
  rw [List.getElem?_set, List.getElem?_zipWith, List.getElem?_zipWith, List.getElem?_set]
  by_cases hj : i = j
  · subst hj
    rw [if_pos rfl, if_pos rfl, if_pos (by simp; omega), if_pos hb, List.getElem?_eq_getElem ha]
    simp [List.getD_eq_getElem?_getD, List.getElem?_eq_getElem ha]
  · rw [if_neg hj, if_neg hj]
theorem frK_len {s : List Int} {w k : Nat} (h : s.length ≤ w) (hk : k ≤ s.length) : (frK s w k).length = w + 2 := by simp [frK]; omega
theorem frK_at {s : List Int} {w k : Nat} (h : s.length ≤ w) (hk : k < s.length) : (frK s w k).getD (2 + k) 0 = 0 := by
  unfold frK
  rw [Nat.add_comm, List.getD_eq_getElem?_getD]
  simp only [List.getElem?_cons_succ]
  rw [List.getElem?_append_right (by rw [List.length_take]; omega), List.length_take, Nat.min_eq_left (by omega), Nat.sub_self, List.getElem?_replicate, if_pos (by omega)]
  rfl
theorem frK_set {s : List Int} {w k : Nat} (h : s.length ≤ w) (hk : k < s.length) : (frK s w k).set (2 + k) (s.getD k 0) = frK s w (k + 1) := by
  unfold frK
  rw [Nat.add_comm]
  simp only [List.set_cons_succ]
  have e : (s.take k ++ List.replicate (w - k) 0).set k (s.getD k 0) = s.take (k + 1) ++ List.replicate (w - (k + 1)) 0 := by
    have hl : (s.take k).length = k := by rw [List.length_take]; omega
    rw [List.set_append_right _ _ (by omega), hl, Nat.sub_self]
    obtain ⟨u, hu⟩ : ∃ u, w - k = u + 1 := ⟨w - k - 1, by omega⟩
    rw [hu, List.replicate_succ, List.set_cons_zero, show w - (k + 1) = u by omega, List.take_add_one, List.getElem?_eq_getElem hk, List.append_assoc]
    simp [List.getD_eq_getElem?_getD, List.getElem?_eq_getElem hk]
  rw [e]
theorem mk_step {zs s : List Int} {W k : Nat} (h : zs.length = W + 2) (hb : ∀ z ∈ zs, 0 ≤ z) (hs : s.length ≤ W) (hk : k < s.length) : (mx zs (frK s W k)).set (2 + k) (xo ((mx zs (frK s W k)).getD (2 + k) 0) (s.getD k 0)) = mx zs (frK s W (k + 1)) := by
  have hz : 0 ≤ zs.getD (2 + k) 0 := by
    rw [List.getD_eq_getElem?_getD, List.getElem?_eq_getElem (by omega)]
    exact hb _ (List.getElem_mem _)
  rw [getD_mx (by omega) (by rw [frK_len hs (by omega)]; omega), frK_at hs hk, xo_zero hz, set_mx _ (by omega) (by rw [frK_len hs (by omega)]; omega), frK_set hs hk]
theorem frK_byt {s : List Int} {w k : Nat} (h : Byt s) (hl : s.length ≤ 65535) : Byt (frK s w k) := by
  intro z hz
  unfold frK at hz
  simp only [List.mem_cons, List.mem_append] at hz
  rcases hz with rfl | rfl | hz | hz
  · omega
  · omega
  · exact h z (List.mem_of_mem_take hz)
  · exact zeros_byt _ z hz
theorem byt_getD {l : List Int} (h : Byt l) (i : Nat) : 0 ≤ l.getD i 0 ∧ l.getD i 0 ≤ 255 := by
  rw [List.getD_eq_getElem?_getD]
  rcases hx : l[i]? with _ | x
  · simp
  · exact h x (List.mem_of_getElem? hx)
end Go.Proofs.Ytacllaeccdgnmaa.paP
