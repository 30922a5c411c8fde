/- New and Put of finders, all ways at once; FinderMakes, by a walk. -/
import Derived.Test.YtbdipdnnjbpibaaFdW9
namespace Go.Proofs.Ytbdipdnnjbpibaa.fdL
open Go.RowKit Go.Proofs.Ytbdipdnnjbpibaa.base Go.Proofs.Ytbdipdnnjbpibaa.rgP Go.Proofs.Ytbdipdnnjbpibaa.fdP Go.Proofs.Ytbdipdnnjbpibaa.fdW Go.Proofs.Ytbdipdnnjbpibaa.hashW
set_option linter.unusedVariables false
set_option linter.unusedSimpArgs false

theorem own_capI {w : World} {B : Nat} {e : TypeId} {k : IntKind} {A : Option Addr} {n c : Nat} {zs : List Int} (h : OwnI w B e k (.slice A n c) zs) : n = zs.length ∧ n ≤ c ∧ c ≤ 9223372036854775807 := by
  obtain ⟨hl, h2⟩ := h
  rcases h2 with ⟨h', h0⟩ | ⟨g', cap, cur, hv, hB, hg, hnc, hcm, hcs, ht⟩
  · injection h' with _ v2 v3
    subst v2 v3
    exact ⟨h0.symm, Nat.le_refl _, by omega⟩
  · injection hv with v1 v2 v3
    subst v2 v3
    exact ⟨rfl, hnc, by simpa [maxLen] using hcm⟩
theorem own_in {w : World} {B : Nat} {A : Option Addr} {n c : Nat} {f : Fnd} (l1 : -9223372036854775808 ≤ f.l) (l2 : f.l ≤ 9223372036854775807) (hb : ∀ z ∈ f.s, -9223372036854775808 ≤ z ∧ z ≤ 9223372036854775807) (o : OwnI w B 3 .i64 (.slice A n c) f.s) : FdIn w A n c f := by
  obtain ⟨c1, c2, c3⟩ := own_capI o
  exact ⟨l1, l2, o.has, c1.symm, c2, c3, hb⟩
theorem zero_in (w : World) : FdIn w none 0 0 zeroF := ⟨by decide, by decide, .inl rfl, rfl, Nat.le_refl _, by decide, by intro z h; cases h⟩
theorem new_in {l : Int} (h : lvB l = true) {w : World} {B c : Nat} {A : Option Addr} (o : OwnI w B 3 .i64 (.slice A (szOf l) c) (List.replicate (szOf l) (-1))) : FdIn w A (szOf l) c (newF l) := by
  have hl := (lvB_iff l).1 h
  have e : newF l = ⟨l, List.replicate (szOf l) (-1)⟩ := by unfold newF; rw [if_pos h]
  rw [e]
  exact own_in (by show -9223372036854775808 ≤ l; omega) (by show l ≤ 9223372036854775807; omega) (by intro z hz; have := List.eq_of_mem_replicate hz; omega) o
theorem New_any (l : Int) (w : World) :
    Calls Try.prog 9 #[.int .i64 l] w fun e w' => ∃ A n c, e = .returned (.tuple #[.agg #[.int .i64 (newF l).l, .slice A n c], .int .i64 (newE l)]) ∧ FdIn w' A n c (newF l) ∧ Below w.heap.size w w' := by
  cases h : lvB l
  · refine (New_bad l w h).mono ?_
    rintro e w1 ⟨rfl, hb⟩
    have e1 : newF l = zeroF := by unfold newF; rw [h]; rfl
    have e2 : newE l = 2 := by unfold newE; rw [h]; rfl
    rw [e1, e2]
    exact ⟨none, 0, 0, rfl, zero_in _, hb⟩
  · refine (New_ok l w h).mono ?_
    rintro e w1 ⟨g, rfl, ho, hb⟩
    have hi := new_in h ho
    have e1 : newF l = ⟨l, List.replicate (szOf l) (-1)⟩ := by unfold newF; rw [if_pos h]
    have e2 : newE l = 0 := by unfold newE; rw [h]; rfl
    refine ⟨_, _, _, ?_, hi, hb⟩
    rw [e1, e2]
theorem rNew_any (l : Int) (w : World) :
    Calls Try.prog 20 #[.int .i64 l] w fun e w' => ∃ A n c, e = .returned (.tuple #[.agg #[.int .i64 (newF l).l, .slice A n c], .int .i64 (newE l)]) ∧ FdIn w' A n c (newF l) ∧ Below w.heap.size w w' := by
  cases h : lvB l
  · refine (rNew_bad l w h).mono ?_
    rintro e w1 ⟨rfl, hb⟩
    have e1 : newF l = zeroF := by unfold newF; rw [h]; rfl
    have e2 : newE l = 2 := by unfold newE; rw [h]; rfl
    rw [e1, e2]
    exact ⟨none, 0, 0, rfl, zero_in _, hb⟩
  · refine (rNew_ok l w h).mono ?_
    rintro e w1 ⟨A, c, rfl, ho, hb⟩
    have hi := new_in h ho
    have e1 : newF l = ⟨l, List.replicate (szOf l) (-1)⟩ := by unfold newF; rw [if_pos h]
    have e2 : newE l = 0 := by unfold newE; rw [h]; rfl
    refine ⟨_, _, _, ?_, hi, hb⟩
    rw [e1, e2]
theorem fput_in {f : Fnd} {A A' : Option Addr} {n c c' B : Nat} {x k : Int} {w w1 : World} (h : FdIn w A n c f) (hk : fputE f k = 0) (o : OwnI w1 B 3 .i64 (.slice A' n c') (fput f x k).s) : FdIn w1 A' n c' (fput f x k) := by
  obtain ⟨a1, a2, a3⟩ := fput_parts hk
  refine own_in h.l1 h.l2 ?_ o
  intro z hz
  rcases List.mem_or_eq_of_mem_set hz with h3 | h3
  · exact h.b z h3
  · rw [h3]; omega
theorem Put_any (f : Fnd) (A : Option Addr) (n c : Nat) (x k : Int) (w : World) (h : FdIn w A n c f) (h1 : 0 ≤ x) (h2 : x ≤ 4294967295) :
    Calls Try.prog 12 #[.agg #[.int .i64 (f).l, .slice A n c], .int .u32 x, .int .i64 k] w fun e w' => ∃ A' n' c', e = .returned (.tuple #[.agg #[.int .i64 (fputV f x k).l, .slice A' n' c'], .int .i64 (fputE f k)]) ∧ FdIn w' A' n' c' (fputV f x k) ∧ Below w.heap.size w w' := by
  by_cases hk : fputE f k = 0
  · refine (Put_ok f A n c x k w h h1 h2 hk).mono ?_
    rintro e w1 ⟨g, d, rfl, ho, hb1⟩
    have e1 : fputV f x k = fput f x k := by unfold fputV; rw [if_pos hk]
    rw [e1, hk]
    exact ⟨_, _, _, rfl, fput_in h hk ho, hb1⟩
  · refine (Put_bad f A n c x k w h h1 h2 hk).mono ?_
    rintro e w1 ⟨rfl, hb1⟩
    have e1 : fputV f x k = zeroF := by unfold fputV; rw [if_neg hk]
    rw [e1]
    exact ⟨none, 0, 0, rfl, zero_in _, hb1⟩
theorem rPut_any (f : Fnd) (A : Option Addr) (n c : Nat) (x k : Int) (w : World) (h : FdIn w A n c f) (h1 : 0 ≤ x) (h2 : x ≤ 4294967295) :
    Calls Try.prog 22 #[.agg #[.int .i64 (f).l, .slice A n c], .int .u32 x, .int .i64 k] w fun e w' => ∃ A' n' c', e = .returned (.tuple #[.agg #[.int .i64 (fputV f x k).l, .slice A' n' c'], .int .i64 (fputE f k)]) ∧ FdIn w' A' n' c' (fputV f x k) ∧ Below w.heap.size w w' := by
  by_cases hk : fputE f k = 0
  · refine (rPut_ok f A n c x k w h h1 h2 hk).mono ?_
    rintro e w1 ⟨g, d, rfl, ho, hb1⟩
    have e1 : fputV f x k = fput f x k := by unfold fputV; rw [if_pos hk]
    rw [e1, hk]
    exact ⟨_, _, _, rfl, fput_in h hk ho, hb1⟩
  · refine (rPut_bad f A n c x k w h hk).mono ?_
    rintro e w1 ⟨rfl, hb1⟩
    have e1 : fputV f x k = zeroF := by unfold fputV; rw [if_neg hk]
    rw [e1]
    exact ⟨none, 0, 0, rfl, zero_in _, hb1⟩
theorem OwnV.caps {w : World} {B : Nat} {A : Option Addr} {n c : Nat} {zs : List Int} (h : OwnV w B (.slice A n c) zs) : n = zs.length ∧ n ≤ c ∧ c ≤ 9223372036854775807 := by
  rcases h with h | ⟨h0, D, e⟩
  · exact own_capI h
  · injection e with _ v2 v3
    subst v2 v3 h0
    exact ⟨rfl, Nat.le_refl _, by omega⟩
theorem twin_in {w w' : World} {A A' : Option Addr} {n c c' B : Nat} {f : Fnd} (h : FdIn w A n c f) (o : OwnV w' B (.slice A' n c') f.s) : FdIn w' A' n c' f := by
  obtain ⟨c1, c2, c3⟩ := OwnV.caps o
  exact ⟨h.l1, h.l2, o.has, h.e, c2, c3, h.b⟩
theorem lies_step {w w' : World} {o : Obj} {g : Nat} {t : TypeId} {cs : List Value} (h : Lies w g t cs) (hb : Below (w.alloc o).heap.size (w.alloc o) w') : Lies w' g t cs := (h.alloc _).past hb
theorem fin_step {w w' : World} {o : Obj} {A : Option Addr} {n c : Nat} {f : Fnd} (h : FdIn w A n c f) (hb : Below (w.alloc o).heap.size (w.alloc o) w') : FdIn w' A n c f := (h.below ((Below.refl _ _).alloc (Nat.le_refl _) _)).below hb
theorem acc_step {a w w' : World} {o : Obj} (h : Below a.heap.size a w) (hb : Below (w.alloc o).heap.size (w.alloc o) w') : Below a.heap.size a w' := (h.alloc h.size _).trans (hb.mono (by have := h.size; simp; omega))
theorem size_step {w w' : World} {o : Obj} (hb : Below (w.alloc o).heap.size (w.alloc o) w') : w.heap.size < w'.heap.size := by have := hb.size; simp at this; omega
theorem f2 {w : World} {g : Nat} {t : TypeId} {a b : Value} (h : Lies w g t [a, b]) : w.cell? ⟨g, 0, none⟩ = some a ∧ w.cell? ⟨g, 1, none⟩ = some b := ⟨h.two.1, h.two.2.1⟩
theorem fin_cap {w : World} {A : Option Addr} {n c : Nat} {f : Fnd} (h : FdIn w A n c f) : n ≤ 9223372036854775807 := by have := h.c1; have := h.c2; omega
end Go.Proofs.Ytbdipdnnjbpibaa.fdL
