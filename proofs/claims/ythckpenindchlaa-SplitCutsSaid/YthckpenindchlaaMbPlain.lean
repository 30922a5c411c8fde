/- Names, by plain facts; members in memory. -/
import Derived.Test.YthckpenindchlaaRows8
import Derived.Test.YthckpenindchlaaBlock
namespace Go.Proofs.Ythckpenindchlaa.mbW
set_option maxRecDepth 100000
open Go.RowKit Go.Proofs.Ythckpenindchlaa.base
set_option linter.unusedVariables false
set_option linter.unusedSimpArgs false
theorem str_eq (a b : ByteArray) : (a.toList == b.toList) = decide (a = b) := by
  by_cases h : a = b
  · subst h; simp
  · rw [decide_eq_false h]
    cases e : (a.toList == b.toList)
    · rfl
    · exfalso
      have e2 := eq_of_beq e
      rw [ByteArray.toList_eq, ByteArray.toList_eq] at e2
      apply h
      cases a; cases b
      congr 1
      exact Array.ext' e2
/-- A letter of a string. -/
def nb (s : ByteArray) (i : Nat) : Nat := match s[i]? with | some b => b.toNat | none => 0
theorem nb_at {s : ByteArray} {i : Nat} (h : i < s.size) : ∃ b : UInt8, s[i]? = some b ∧ nb s i = b.toNat := by
  refine ⟨s[i], by rw [getElem?_pos s i h], ?_⟩
  unfold nb
  rw [getElem?_pos s i h]
theorem nb_get {s : ByteArray} {i : Nat} (h : i < s.size) : nb s i = (s[i]'h).toNat := by
  unfold nb
  rw [getElem?_pos s i h]
def nmB (s : ByteArray) : Bool := decide (1 ≤ s.size) && decide (s.size ≤ 40) && (List.range s.size).all fun i => decide (33 ≤ nb s i) && decide (nb s i ≤ 126)
theorem nm_short {s : ByteArray} (h : ¬ 1 ≤ s.size) : nmB s = false := by unfold nmB; rw [decide_eq_false h]; rfl
theorem nm_long {s : ByteArray} (h : ¬ s.size ≤ 40) : nmB s = false := by unfold nmB; rw [decide_eq_false h]; simp
theorem nm_bad {s : ByteArray} {i : Nat} (hi : i < s.size) (h : ¬ (33 ≤ nb s i ∧ nb s i ≤ 126)) : nmB s = false := by
  rw [← Bool.not_eq_true]
  intro e
  unfold nmB at e
  rw [Bool.and_eq_true] at e
  have := List.all_eq_true.1 e.2 i (List.mem_range.2 hi)
  simp at this
  exact h this
theorem nm_yes {s : ByteArray} (h1 : 1 ≤ s.size) (h2 : s.size ≤ 40) (h : ∀ i, i < s.size → 33 ≤ nb s i ∧ nb s i ≤ 126) : nmB s = true := by
  unfold nmB
  rw [decide_eq_true h1, decide_eq_true h2]
  simp only [Bool.true_and]
  refine List.all_eq_true.2 fun i hi => ?_
  have := h i (List.mem_range.1 hi)
  simp [this.1, this.2]
theorem nm_size {s : ByteArray} (h : nmB s = true) : 1 ≤ s.size ∧ s.size ≤ 40 := by
  unfold nmB at h
  rw [Bool.and_eq_true, Bool.and_eq_true] at h
  exact ⟨of_decide_eq_true h.1.1, of_decide_eq_true h.1.2⟩
/-- A name twice. -/
def twP (ss : List ByteArray) : Prop := ∃ i k, k < i ∧ i < ss.length ∧ ss.getD i .empty = ss.getD k .empty
open Classical in
noncomputable def twE (ss : List ByteArray) : Int := if twP ss then 14 else 0
theorem tw_yes {ss : List ByteArray} (h : twP ss) : twE ss = 14 := by unfold twE; rw [if_pos h]
theorem tw_no {ss : List ByteArray} (h : ¬ twP ss) : twE ss = 0 := by unfold twE; rw [if_neg h]
theorem twE_cases (ss : List ByteArray) : twE ss = 0 ∨ twE ss = 14 := by unfold twE; split <;> simp
/-! Strings in memory. -/
def HasT (w : World) (A : Option Addr) (ss : List ByteArray) : Prop := ss = [] ∨ ∃ b off, A = some ⟨b, off, none⟩ ∧ b < w.heap.size ∧ ∀ i, i < ss.length → w.cell? ⟨b, off + i, none⟩ = some (.string (ss.getD i .empty))
theorem HasT.some {w : World} {A : Option Addr} {ss : List ByteArray} (h : HasT w A ss) (hp : 0 < ss.length) : ∃ b off, A = Option.some ⟨b, off, none⟩ ∧ b < w.heap.size ∧ ∀ i, i < ss.length → w.cell? ⟨b, off + i, none⟩ = Option.some (.string (ss.getD i .empty)) := by
  rcases h with h | h
  · subst h; simp at hp
  · exact h
/-! Members in memory. -/
structure Mb where
  nm : ByteArray
  r : R8
def mb0 : Mb := ⟨.empty, r80⟩
structure HasM (w : World) (P : Option Addr) (ms : List Mb) : Prop where
  at_ : ms = [] ∨ ∃ b off, P = some ⟨b, off, none⟩ ∧ b < w.heap.size ∧ ∀ i, i < ms.length → w.cell? ⟨b, off + i * 2, none⟩ = some (.string (ms.getD i mb0).nm) ∧ w.cell? ⟨b, off + i * 2 + 1, none⟩ = some (.slice (ms.getD i mb0).r.A (ms.getD i mb0).r.n (ms.getD i mb0).r.c)
  all : ∀ m ∈ ms, InR w m.r
theorem HasM.below {w w' : World} {B : Nat} {P : Option Addr} {ms : List Mb} (h : HasM w P ms) (hb : Below B w w') (hB : w.heap.size ≤ B) : HasM w' P ms := by
  refine ⟨?_, fun r hr => (h.all r hr).below hb hB⟩
  rcases h.at_ with h | ⟨b, off, rfl, hlt, hc⟩
  · exact .inl h
  · exact .inr ⟨b, off, rfl, Nat.lt_of_lt_of_le hlt hb.size, fun i hi => by
      rw [hb.cell (p := ⟨b, off + i * 2, none⟩) (Nat.lt_of_lt_of_le hlt hB), hb.cell (p := ⟨b, off + i * 2 + 1, none⟩) (Nat.lt_of_lt_of_le hlt hB)]; exact hc i hi⟩
theorem HasM.some {w : World} {P : Option Addr} {ms : List Mb} (h : HasM w P ms) (hp : 0 < ms.length) : ∃ b off, P = Option.some ⟨b, off, none⟩ ∧ b < w.heap.size := by
  rcases h.at_ with h | ⟨b, off, h1, h2, _⟩
  · subst h; simp at hp
  · exact ⟨b, off, h1, h2⟩
structure MemB (w : World) (P : Option Addr) (m d : Nat) (ms : List Mb) : Prop where
  l : ms.length = m
  c1 : m ≤ d
  c2 : d ≤ 9223372036854775807
  h : HasM w P ms
theorem MemB.below {w w' : World} {B : Nat} {P : Option Addr} {m d : Nat} {ms : List Mb} (h : MemB w P m d ms) (hb : Below B w w') (hB : w.heap.size ≤ B) : MemB w' P m d ms := ⟨h.l, h.c1, h.c2, h.h.below hb hB⟩
/-- One member's cells, in a later world. -/
theorem memCell {w : World} {b off m d : Nat} {ms : List Mb} (h : MemB w (some ⟨b, off, none⟩) m d ms) {k : Nat} (hk : k < m) {w' : World} (hb : Below w.heap.size w w') : w'.cell? ⟨b, off + k * 2, none⟩ = some (.string (ms.getD k mb0).nm) ∧ w'.cell? ⟨b, off + k * 2 + 1, none⟩ = some (.slice (ms.getD k mb0).r.A (ms.getD k mb0).r.n (ms.getD k mb0).r.c) := by
  have h' := h.below hb (Nat.le_refl _)
  have hl := h.l
  rcases h'.h.at_ with e | ⟨b', off', e, _, hc⟩
  · rw [e] at hl; simp at hl; omega
  · injection e with e
    injection e with e1 e2
    subst e1 e2
    exact hc k (by omega)
theorem memIn {w : World} {P : Option Addr} {m d : Nat} {ms : List Mb} (h : MemB w P m d ms) {k : Nat} (hk : k < m) : InR w (ms.getD k mb0).r := by
  have hl := h.l
  rw [List.getD_eq_getElem?_getD, List.getElem?_eq_getElem (by omega)]
  exact h.h.all _ (List.getElem_mem _)
/-- What is wrong with members. -/
def sumD : List Mb → Nat
  | [] => 0
  | m :: l => m.r.n + sumD l
theorem sumD_snoc : ∀ (ms : List Mb) (k : Nat), k < ms.length → sumD (ms.take (k + 1)) = sumD (ms.take k) + (ms.getD k mb0).r.n
  | [], k, h => by simp at h
  | m :: l, 0, h => by simp [sumD]
  | m :: l, k + 1, h => by
    have := sumD_snoc l k (by simpa using h)
    simp only [List.take_succ_cons, sumD]
    rw [this]; simp; omega
theorem sumD_take : ∀ (ms : List Mb) (k : Nat), sumD (ms.take k) ≤ sumD ms
  | [], k => by simp [sumD]
  | m :: l, 0 => by simp [sumD]
  | m :: l, k + 1 => by have := sumD_take l k; simp only [List.take_succ_cons, sumD]; omega
def nms (ms : List Mb) : List ByteArray := ms.map (·.nm)
theorem nms_len (ms : List Mb) : (nms ms).length = ms.length := List.length_map _
theorem nms_get (ms : List Mb) {k : Nat} (h : k < ms.length) : (nms ms).getD k .empty = (ms.getD k mb0).nm := by
  rw [List.getD_eq_getElem?_getD, List.getD_eq_getElem?_getD, nms, List.getElem?_map, List.getElem?_eq_getElem h]; rfl
noncomputable def ckE (ms : List Mb) : Int := if 16 < ms.length then 4 else if 8192 < sumD ms then 4 else if (nms ms).all nmB then twE (nms ms) else 8
theorem ck_long {ms : List Mb} (h : 16 < ms.length) : ckE ms = 4 := by unfold ckE; rw [if_pos h]
theorem ck_sum {ms : List Mb} (h : ¬ 16 < ms.length) (h2 : 8192 < sumD ms) : ckE ms = 4 := by unfold ckE; rw [if_neg h, if_pos h2]
theorem ck_bad {ms : List Mb} (h : ¬ 16 < ms.length) (h2 : ¬ 8192 < sumD ms) {k : Nat} (hk : k < ms.length) (hb : nmB (ms.getD k mb0).nm = false) : ckE ms = 8 := by
  unfold ckE
  rw [if_neg h, if_neg h2, if_neg]
  intro e
  have := List.all_eq_true.1 e ((nms ms).getD k .empty) (by rw [List.getD_eq_getElem?_getD, List.getElem?_eq_getElem (by rw [nms_len]; exact hk)]; exact List.getElem_mem _)
  rw [nms_get ms hk, hb] at this
  cases this
theorem ck_ok {ms : List Mb} (h : ¬ 16 < ms.length) (h2 : ¬ 8192 < sumD ms) (hb : ∀ k, k < ms.length → nmB (ms.getD k mb0).nm = true) : ckE ms = twE (nms ms) := by
  unfold ckE
  rw [if_neg h, if_neg h2, if_pos]
  refine List.all_eq_true.2 fun s hs => ?_
  obtain ⟨i, hi, rfl⟩ := List.mem_iff_getElem.1 hs
  have := hb i (by rwa [nms_len] at hi)
  rw [← nms_get ms (by rwa [nms_len] at hi), List.getD_eq_getElem?_getD, List.getElem?_eq_getElem hi] at this
  exact this
end Go.Proofs.Ythckpenindchlaa.mbW
