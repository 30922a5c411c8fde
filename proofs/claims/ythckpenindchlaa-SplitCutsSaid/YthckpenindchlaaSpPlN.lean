/- What is missing lies within, overlaps nothing, stands in order; with it nothing is missing. -/
import Derived.Test.YthckpenindchlaaSpPlM
namespace Go.Proofs.Ythckpenindchlaa.spW
set_option maxRecDepth 100000
open Go.RowKit Go.Proofs.Ythckpenindchlaa.base Go.Proofs.Ythckpenindchlaa.mbW
set_option linter.unusedVariables false
set_option linter.unusedSimpArgs false
set_option maxRecDepth 100000
structure GI (i : Int) (c : List Bool) (k : Nat) (g : List Pc) : Prop where
  all : ∀ p ∈ g, p.m = i ∧ 0 ≤ p.o ∧ 1 ≤ p.r ∧ p.o + p.r ≤ k ∧ ∀ j : Nat, p.o ≤ j → (j : Int) < p.o + p.r → c.getD j false = false
  cov : ∀ j : Nat, j < k → c.getD j false = false → ∃ p ∈ g, p.o ≤ j ∧ (j : Int) < p.o + p.r
  ord : g.Pairwise (fun a b => a.o + a.r < b.o)
theorem bmp_last (g : List Pc) (q : Pc) : bmp (g ++ [q]) = g ++ [⟨q.m, q.o, q.r + 1⟩] := by
  rw [bmp_app g (by simp)]
  rfl
theorem gi_cov {i : Int} {c : List Bool} {k : Nat} {g : List Pc} (h : GI i c k g) (hc : c.getD k false = true) : GI i c (k + 1) g := by
  refine ⟨fun p hp => ?_, fun j hj hf => ?_, h.ord⟩
  · obtain ⟨h1, h2, h3, h4, h5⟩ := h.all p hp
    exact ⟨h1, h2, h3, by omega, h5⟩
  · rcases Nat.lt_or_ge j k with hlt | hge
    · exact h.cov j hlt hf
    · obtain rfl : j = k := by omega
      rw [hc] at hf
      exact absurd hf (by decide)
theorem gi_new {i : Int} {c : List Bool} {k : Nat} {g : List Pc} (h : GI i c k g) (hc : c.getD k false = false) (hn : ¬ (0 < k ∧ c.getD (k - 1) false = false)) : GI i c (k + 1) (g ++ [⟨i, k, 1⟩]) := by
  refine ⟨fun p hp => ?_, fun j hj hf => ?_, ?_⟩
  · rw [List.mem_append, List.mem_singleton] at hp
    rcases hp with hp | rfl
    · obtain ⟨h1, h2, h3, h4, h5⟩ := h.all p hp
      exact ⟨h1, h2, h3, by omega, h5⟩
    · refine ⟨rfl, by dsimp only; omega, by dsimp only; omega, by dsimp only; omega, fun j h1 h2 => ?_⟩
      dsimp only at h1 h2
      obtain rfl : j = k := by omega
      exact hc
  · rcases Nat.lt_or_ge j k with hlt | hge
    · obtain ⟨p, hp, h1⟩ := h.cov j hlt hf
      exact ⟨p, List.mem_append_left _ hp, h1⟩
    · obtain rfl : j = k := by omega
      exact ⟨⟨i, j, 1⟩, List.mem_append_right _ (List.mem_singleton.2 rfl), by dsimp only; omega, by dsimp only; omega⟩
  · rw [List.pairwise_append]
    refine ⟨h.ord, List.pairwise_singleton _ _, fun a ha b hb => ?_⟩
    rw [List.mem_singleton] at hb
    subst hb
    obtain ⟨h1, h2, h3, h4, h5⟩ := h.all a ha
    dsimp only
    rcases Int.lt_or_le (a.o + a.r) k with hlt | hge
    · exact hlt
    · exact absurd ⟨by omega, h5 (k - 1) (by omega) (by omega)⟩ hn
theorem gi_bmp {i : Int} {c : List Bool} {k : Nat} {g : List Pc} (h : GI i c k g) (hc : c.getD k false = false) (hk : 0 < k) (hp : c.getD (k - 1) false = false) : GI i c (k + 1) (bmp g) := by
  obtain ⟨p, hm, h1, h2⟩ := h.cov (k - 1) (by omega) hp
  have hne : g ≠ [] := List.ne_nil_of_mem hm
  obtain ⟨g', q, rfl⟩ : ∃ g' q, g = g' ++ [q] := ⟨_, _, (List.dropLast_concat_getLast hne).symm⟩
  have ho := h.ord
  rw [List.pairwise_append] at ho
  obtain ⟨o1, -, o2⟩ := ho
  obtain ⟨q1, q2, q3, q4, q5⟩ := h.all q (List.mem_append_right _ (List.mem_singleton.2 rfl))
  have hq : q.o + q.r = k := by
    obtain ⟨-, -, -, p4, -⟩ := h.all p hm
    rw [List.mem_append, List.mem_singleton] at hm
    rcases hm with hm | rfl
    · have := o2 p hm q (List.mem_singleton.2 rfl)
      omega
    · omega
  rw [bmp_last]
  refine ⟨fun x hx => ?_, fun j hj hf => ?_, ?_⟩
  · rw [List.mem_append, List.mem_singleton] at hx
    rcases hx with hx | rfl
    · obtain ⟨x1, x2, x3, x4, x5⟩ := h.all x (List.mem_append_left _ hx)
      exact ⟨x1, x2, x3, by omega, x5⟩
    · refine ⟨q1, q2, by dsimp only; omega, by dsimp only; omega, fun j j1 j2 => ?_⟩
      dsimp only at j1 j2
      rcases Int.lt_or_le (j : Int) (q.o + q.r) with hlt | hge
      · exact q5 j j1 hlt
      · obtain rfl : j = k := by omega
        exact hc
  · rcases Nat.lt_or_ge j k with hlt | hge
    · obtain ⟨x, hx, x1, x2⟩ := h.cov j hlt hf
      rw [List.mem_append, List.mem_singleton] at hx
      rcases hx with hx | rfl
      · exact ⟨x, List.mem_append_left _ hx, x1, x2⟩
      · exact ⟨_, List.mem_append_right _ (List.mem_singleton.2 rfl), x1, by dsimp only; omega⟩
    · obtain rfl : j = k := by omega
      exact ⟨_, List.mem_append_right _ (List.mem_singleton.2 rfl), by dsimp only; omega, by dsimp only; omega⟩
  · rw [List.pairwise_append]
    refine ⟨o1, List.pairwise_singleton _ _, fun a ha b hb => ?_⟩
    rw [List.mem_singleton] at hb
    subst hb
    exact o2 a ha q (List.mem_singleton.2 rfl)
theorem gi_gp (i : Int) (c : List Bool) : ∀ k, GI i c k (gp i c k)
  | 0 => ⟨fun p hp => by simp [gp] at hp, fun j hj => by omega, List.Pairwise.nil⟩
  | k + 1 => by
    have ih := gi_gp i c k
    by_cases hc : c.getD k false = true
    · rw [gp_cov hc]; exact gi_cov ih hc
    · have hc : c.getD k false = false := by simpa using hc
      by_cases h : 0 < k ∧ c.getD (k - 1) false = false
      · rw [gp_bmp hc h.1 h.2]; exact gi_bmp ih hc h.1 h.2
      · rw [gp_new hc h]; exact gi_new ih hc h
/-- A gap of what is missing. -/
theorem ms_mem {zs : List Int} {l : List Pc} {p : Pc} : ∀ n, p ∈ msT zs l n ↔ ∃ i, i < n ∧ p ∈ gp i (cvT l i (zs.getD i 0).toNat l.length) (zs.getD i 0).toNat
  | 0 => by simp [msT]
  | n + 1 => by
    rw [msT, List.mem_append, ms_mem n]
    constructor
    · rintro (⟨i, h1, h2⟩ | h)
      · exact ⟨i, by omega, h2⟩
      · exact ⟨n, by omega, h⟩
    · rintro ⟨i, h1, h2⟩
      rcases Nat.lt_or_ge i n with h | h
      · exact .inl ⟨i, h, h2⟩
      · obtain rfl : i = n := by omega
        exact .inr h2
theorem ms_wi {zs : List Int} {l : List Pc} (hz : ∀ k, k < zs.length → 0 ≤ zs.getD k 0) {p : Pc} (h : p ∈ msT zs l zs.length) : wiP zs p := by
  obtain ⟨i, hi, hp⟩ := (ms_mem _).1 h
  obtain ⟨h1, h2, h3, h4, -⟩ := (gi_gp _ _ _).all p hp
  have h0 := hz i hi
  unfold wiP
  rw [h1, show ((i : Int)).toNat = i by omega]
  exact ⟨by omega, by omega, h2, h3, by omega, by omega⟩
theorem ms_apart {zs : List Int} {l : List Pc} {p : Pc} (h : p ∈ msT zs l zs.length) {k : Nat} (hk : k < l.length) (hw : wiP zs (l.getD k pc0)) : ¬ ((l.getD k pc0).m = p.m ∧ (l.getD k pc0).o < p.o + p.r ∧ p.o < (l.getD k pc0).o + (l.getD k pc0).r) := by
  obtain ⟨i, hi, hp⟩ := (ms_mem _).1 h
  obtain ⟨h1, h2, h3, h4, h5⟩ := (gi_gp _ _ _).all p hp
  rintro ⟨e1, e2, e3⟩
  obtain ⟨w1, w2, w3, w4, w5, w6⟩ := hw
  have hj := h5 (max p.o.toNat (l.getD k pc0).o.toNat) (by omega) (by omega)
  have := (cvT_iff l i (zs.getD i 0).toNat (j := max p.o.toNat (l.getD k pc0).o.toNat) (by omega) l.length (Nat.le_refl _)).2 ⟨k, hk, by rw [e1, h1], by omega, by omega⟩
  rw [hj] at this
  exact absurd this (by decide)
theorem ms_ord (zs : List Int) (l : List Pc) : ∀ n, (msT zs l n).Pairwise (fun a b => a.m < b.m ∨ a.m = b.m ∧ a.o + a.r < b.o)
  | 0 => List.Pairwise.nil
  | n + 1 => by
    rw [msT, List.pairwise_append]
    have hg := gi_gp n (cvT l n (zs.getD n 0).toNat l.length) (zs.getD n 0).toNat
    refine ⟨ms_ord zs l n, ?_, fun a ha b hb => ?_⟩
    · refine List.Pairwise.imp_of_mem (fun {a b} ha hb h => .inr ⟨?_, h⟩) hg.ord
      rw [(hg.all a ha).1, (hg.all b hb).1]
    · obtain ⟨i, hi, hp⟩ := (ms_mem _).1 ha
      refine .inl ?_
      rw [((gi_gp _ _ _).all a hp).1, (hg.all b hb).1]
      omega
theorem pw_at {R : Pc → Pc → Prop} {l : List Pc} (h : l.Pairwise R) {i j : Nat} (hij : i < j) (hj : j < l.length) : R (l.getD i pc0) (l.getD j pc0) := by
  rw [List.getD_eq_getElem?_getD, List.getD_eq_getElem?_getD, List.getElem?_eq_getElem (by omega), List.getElem?_eq_getElem hj]
  exact (List.pairwise_iff_getElem.1 h) i j (by omega) hj hij
theorem ms_nil {zs : List Int} {l : List Pc} (hz : ∀ k, k < zs.length → 0 ≤ zs.getD k 0) : msT zs (l ++ msT zs l zs.length) zs.length = [] := by
  refine List.eq_nil_iff_forall_not_mem.2 (fun p hp => ?_)
  obtain ⟨i, hi, hp⟩ := (ms_mem _).1 hp
  obtain ⟨h1, h2, h3, h4, h5⟩ := (gi_gp _ _ _).all p hp
  have hf := h5 p.o.toNat (by omega) (by omega)
  have hjz : p.o.toNat < (zs.getD i 0).toNat := by omega
  have key : (cvT (l ++ msT zs l zs.length) i (zs.getD i 0).toNat (l ++ msT zs l zs.length).length).getD p.o.toNat false = true := by
    rw [cvT_iff _ i _ hjz _ (Nat.le_refl _)]
    by_cases hc : (cvT l i (zs.getD i 0).toNat l.length).getD p.o.toNat false = true
    · obtain ⟨u, hu, h⟩ := (cvT_iff l i _ hjz _ (Nat.le_refl _)).1 hc
      refine ⟨u, by rw [List.length_append]; omega, ?_⟩
      rw [List.getD_eq_getElem?_getD, List.getElem?_append_left hu, ← List.getD_eq_getElem?_getD]
      exact h
    · have hc : (cvT l i (zs.getD i 0).toNat l.length).getD p.o.toNat false = false := by simpa using hc
      obtain ⟨q, hq, q1, q2⟩ := (gi_gp i (cvT l i (zs.getD i 0).toNat l.length) (zs.getD i 0).toNat).cov _ hjz hc
      obtain ⟨a1, a2, a3, a4, -⟩ := (gi_gp _ _ _).all q hq
      have hm : q ∈ msT zs l zs.length := (ms_mem _).2 ⟨i, hi, hq⟩
      obtain ⟨u, hu, e⟩ := List.getElem_of_mem hm
      refine ⟨l.length + u, by rw [List.length_append]; omega, ?_⟩
      rw [List.getD_eq_getElem?_getD, List.getElem?_append_right (by omega), Nat.add_sub_cancel_left, List.getElem?_eq_getElem hu, e, Option.getD_some]
      exact ⟨a1, by omega, by omega⟩
  rw [key] at hf
  exact absurd hf (by decide)
end Go.Proofs.Ythckpenindchlaa.spW
