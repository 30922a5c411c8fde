/- Markers in lists of bytes: plain facts. No program's numbers. -/
import Derived.Lib.IndexMore
import Derived.Lib.Bytes

namespace Go.Proofs.Ythcpanenjcjgpaa.mkP
set_option linter.unusedVariables false
set_option linter.unusedSimpArgs false

def mk : List Int := [183, 98, 105, 116, 108, 111, 102, 116, 32, 98, 108, 107, 10]
def occ (b : List Int) (i : Nat) : Bool := decide ((b.drop i).take 13 = mk)
/-- The index of the first marker, or the length. -/
def nxt : List Int → Nat
  | [] => 0
  | x :: l => if (x :: l).take 13 = mk then 0 else nxt l + 1
def nx (b : List Int) (f : Nat) : Nat := f + nxt (b.drop f)
theorem nxt_le : ∀ b : List Int, nxt b ≤ b.length
  | [] => Nat.le_refl _
  | x :: l => by
    unfold nxt
    split
    · omega
    · have := nxt_le l
      simp only [List.length_cons]; omega
theorem nx_le (b : List Int) (f : Nat) (h : f ≤ b.length) : f ≤ nx b f ∧ nx b f ≤ b.length := by
  have := nxt_le (b.drop f)
  rw [List.length_drop] at this
  unfold nx
  omega
theorem occ_room {b : List Int} {i : Nat} (h : occ b i = true) : i + 13 ≤ b.length := by
  have h1 := of_decide_eq_true h
  have h2 := congrArg List.length h1
  have : mk.length = 13 := rfl
  rw [List.length_take, List.length_drop, this] at h2
  omega
theorem nx_hit {b : List Int} {f : Nat} (h : occ b f = true) : nx b f = f := by
  have hr := occ_room h
  have h1 := of_decide_eq_true h
  unfold nx
  rw [List.drop_eq_getElem_cons (by omega)] at h1 ⊢
  unfold nxt
  rw [if_pos h1]; rfl
theorem nx_miss {b : List Int} {f : Nat} (hf : f < b.length) (h : occ b f = false) : nx b f = nx b (f + 1) := by
  have h1 := of_decide_eq_false h
  unfold nx
  rw [List.drop_eq_getElem_cons hf] at h1 ⊢
  rw [show nxt (b[f] :: b.drop (f + 1)) = if (b[f] :: b.drop (f + 1)).take 13 = mk then 0 else nxt (b.drop (f + 1)) + 1 from rfl, if_neg h1]
  omega
theorem nx_end {b : List Int} {f : Nat} (hf : b.length ≤ f) : nx b f = f := by
  unfold nx
  rw [List.drop_eq_nil_of_le hf]; rfl
/-- What the next one is. -/
theorem nx_spec (b : List Int) : ∀ (n f : Nat), f ≤ b.length → b.length - f = n → (∀ j, f ≤ j → j < nx b f → occ b j = false) ∧ (nx b f = b.length ∨ occ b (nx b f) = true) := by
  intro n
  induction n with
  | zero =>
    intro f h1 h2
    rw [nx_end (by omega)]
    exact ⟨fun j a c => by omega, .inl (by omega)⟩
  | succ n ih =>
    intro f h1 h2
    cases ho : occ b f with
    | true =>
      rw [nx_hit ho]
      exact ⟨fun j a c => by omega, .inr ho⟩
    | false =>
      rw [nx_miss (by omega) ho]
      obtain ⟨h3, h4⟩ := ih (f + 1) (by omega) (by omega)
      refine ⟨fun j a c => ?_, h4⟩
      by_cases e : j = f
      · subst e; exact ho
      · exact h3 j (by omega) c
theorem nx_no (b : List Int) {f j : Nat} (hf : f ≤ b.length) (h1 : f ≤ j) (h2 : j < nx b f) : occ b j = false := (nx_spec b _ f hf rfl).1 j h1 h2
theorem nx_at (b : List Int) {f : Nat} (hf : f ≤ b.length) : nx b f = b.length ∨ occ b (nx b f) = true := (nx_spec b _ f hf rfl).2
theorem occ_end {b : List Int} {i : Nat} (h : b.length < i + 13) : occ b i = false := by
  cases ho : occ b i with
  | false => rfl
  | true => have := occ_room ho; omega
theorem mk_at {k : Nat} (h : k < 13) : (mk.getD k 0 = 183) ↔ k = 0 := by
  have : ∀ k, k < 13 → (mk.getD k 0 = 183 ↔ k = 0) := by decide
  exact this k h
theorem occ_at {b : List Int} {i k : Nat} (h : occ b i = true) (hk : k < 13) : b.getD (i + k) 0 = mk.getD k 0 := by
  have h1 := of_decide_eq_true h
  rw [← h1]
  simp only [List.getD_eq_getElem?_getD, List.getElem?_take, List.getElem?_drop]
  rw [if_pos hk]
theorem occ_first {b : List Int} {i : Nat} (h : occ b i = true) : b.getD i 0 = 183 := occ_at (k := 0) h (by omega)
/-- Markers stand apart. -/
theorem occ_apart {b : List Int} {i j : Nat} (h : occ b i = true) (hj : occ b j = true) (hij : i < j) : i + 13 ≤ j := by
  rcases Nat.lt_or_ge j (i + 13) with h1 | h1
  · have e := occ_at (k := j - i) h (by omega)
    rw [show i + (j - i) = j by omega, occ_first hj] at e
    have := (mk_at (k := j - i) (by omega)).1 e.symm
    omega
  · exact h1
theorem occ_of_all {b : List Int} {i : Nat} (hr : i + 13 ≤ b.length) (h : ∀ k, k < 13 → b.getD (i + k) 0 = mk.getD k 0) : occ b i = true := by
  refine decide_eq_true (List.ext_getElem ?_ fun k h1 h2 => ?_)
  · rw [List.length_take, List.length_drop]; show _ = 13; omega
  · have hk : k < 13 := h2
    have := h k hk
    rw [List.getD_eq_getElem?_getD, List.getD_eq_getElem?_getD, List.getElem?_eq_getElem (by omega), List.getElem?_eq_getElem h2] at this
    simp only [List.getElem_take, List.getElem_drop]
    simpa using this
/-- The places below k. -/
def plK (b : List Int) (k : Nat) : List Int := ((List.range k).filter fun i => occ b i).map fun i : Nat => (i : Int)
def pl (b : List Int) : List Int := plK b b.length
theorem plK_0 (b : List Int) : plK b 0 = [] := rfl
theorem plK_hit {b : List Int} {k : Nat} (h : occ b k = true) : plK b (k + 1) = plK b k ++ [(k : Int)] := by
  simp [plK, List.range_succ, List.filter_append, h]
theorem plK_miss {b : List Int} {k : Nat} (h : occ b k = false) : plK b (k + 1) = plK b k := by
  simp [plK, List.range_succ, List.filter_append, h]
theorem plK_same {b : List Int} {k m : Nat} (hkm : k ≤ m) (h : ∀ j, k ≤ j → j < m → occ b j = false) : plK b m = plK b k := by
  induction m with
  | zero => rw [show k = 0 by omega]
  | succ m ih =>
    rcases Nat.lt_or_ge m k with h1 | h1
    · rw [show k = m + 1 by omega]
    · rw [plK_miss (h m h1 (by omega)), ih h1 (fun j a c => h j a (by omega))]
theorem plK_len (b : List Int) (k : Nat) : (plK b k).length ≤ k := by
  have := List.length_filter_le (fun i => occ b i) (List.range k)
  simp only [plK, List.length_map, List.length_range] at *
  exact this
theorem plK_mem {b : List Int} {k : Nat} {z : Int} (h : z ∈ plK b k) : ∃ i : Nat, z = i ∧ i < k ∧ occ b i = true := by
  obtain ⟨i, hi, rfl⟩ := List.mem_map.1 h
  have := List.mem_filter.1 hi
  exact ⟨i, rfl, List.mem_range.1 this.1, this.2⟩
/-- From one marker on to the next one. -/
theorem plK_on {b : List Int} {i : Nat} (h : occ b i = true) : plK b (nx b (i + 13)) = plK b i ++ [(i : Int)] := by
  have hr := occ_room h
  have hl := nx_le b (i + 13) hr
  rw [← plK_hit h]
  refine plK_same (by omega) fun j h1 h2 => ?_
  rcases Nat.lt_or_ge j (i + 13) with h3 | h3
  · cases ho : occ b j with
    | false => rfl
    | true => have := occ_apart h ho (by omega); omega
  · exact nx_no b hr h3 h2
theorem plK_first (b : List Int) : plK b (nx b 0) = [] := by
  rw [plK_same (k := 0) (Nat.zero_le _) fun j h1 h2 => nx_no b (Nat.zero_le _) h1 h2]; rfl
/-- bytes.Index, in these words. -/
theorem byte_inj {x y : Int} (hx : 0 ≤ x ∧ x ≤ 255) (hy : 0 ≤ y ∧ y ≤ 255) (h : UInt8.ofNat x.toNat = UInt8.ofNat y.toNat) : x = y := by
  have := congrArg UInt8.toNat h
  simp at this
  omega
theorem bytes_inj : ∀ {xs ys : List Int}, (∀ z ∈ xs, 0 ≤ z ∧ z ≤ 255) → (∀ z ∈ ys, 0 ≤ z ∧ z ≤ 255) → Lib.bytesOf xs = Lib.bytesOf ys → xs = ys
  | [], [], _, _, _ => rfl
  | [], _ :: _, _, _, h => by simp [Lib.bytesOf] at h
  | _ :: _, [], _, _, h => by simp [Lib.bytesOf] at h
  | x :: xs, y :: ys, hx, hy, h => by
    simp only [Lib.bytesOf, List.map_cons, List.cons.injEq] at h
    rw [byte_inj (hx x (by simp)) (hy y (by simp)) h.1, bytes_inj (fun z hz => hx z (by simp [hz])) (fun z hz => hy z (by simp [hz])) h.2]
theorem mk_bd : ∀ z ∈ mk, 0 ≤ z ∧ z ≤ 255 := by decide
theorem prefix_mk {l : List Int} (hl : ∀ z ∈ l, 0 ≤ z ∧ z ≤ 255) : (Lib.bytesOf mk).isPrefixOf (Lib.bytesOf l) = decide (l.take 13 = mk) := by
  rw [Bool.eq_iff_iff, List.isPrefixOf_iff_prefix, List.prefix_iff_eq_take, decide_eq_true_iff]
  have e : (Lib.bytesOf mk).length = 13 := rfl
  rw [e]
  have e2 : (Lib.bytesOf l).take 13 = Lib.bytesOf (l.take 13) := by simp [Lib.bytesOf, List.map_take]
  rw [e2]
  constructor
  · intro h
    exact (bytes_inj mk_bd (fun z hz => hl z (List.mem_of_mem_take hz)) h).symm
  · intro h; rw [h]
theorem index_nxt : ∀ {l : List Int}, (∀ z ∈ l, 0 ≤ z ∧ z ≤ 255) → Lib.index (Lib.bytesOf l) (Lib.bytesOf mk) = if nxt l < l.length then (nxt l : Int) else -1
  | [], _ => rfl
  | x :: l, h => by
    have ih := index_nxt (l := l) fun z hz => h z (by simp [hz])
    have hp := prefix_mk h
    have e : Lib.bytesOf (x :: l) = UInt8.ofNat x.toNat :: Lib.bytesOf l := rfl
    rw [e] at hp ⊢
    unfold Lib.index
    rw [hp]
    unfold nxt
    by_cases c : (x :: l).take 13 = mk
    · rw [if_pos (decide_eq_true c), if_pos c, if_pos (by simp)]; rfl
    · have hd : decide ((x :: l).take 13 = mk) = false := decide_eq_false c
      rw [hd, if_neg c, ih]
      simp only [List.length_cons, Bool.false_eq_true, if_false]
      by_cases c2 : nxt l < l.length
      · rw [if_pos c2]
        have h1 : ((nxt l : Int) == -1) = false := by simp
        have h2 : nxt l + 1 < l.length + 1 := by omega
        rw [h1, if_pos h2]; rfl
      · have h2 : ¬ nxt l + 1 < l.length + 1 := by omega
        rw [if_neg c2, if_neg h2]; rfl
end Go.Proofs.Ythcpanenjcjgpaa.mkP
