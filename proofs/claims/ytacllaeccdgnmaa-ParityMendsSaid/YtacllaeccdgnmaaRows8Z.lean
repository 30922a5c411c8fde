/- Lists of strings of bytes that came in: none is longer than memory reaches. -/
import Derived.Test.YtacllaeccdgnmaaRows8
import Derived.SizedLaws
namespace Go.Proofs.Ytacllaeccdgnmaa.base
set_option maxRecDepth 100000
open Go.ChangeShapes Go.WideShapes Go.ChangeAt Go.RowKit Go.Deep
set_option linter.unusedVariables false
theorem weights_all {H : Type} {P : Program} {e : TypeId} {d : DataW H} {n : Nat} : ∀ {l : List (DataW H)}, d ∈ l → n ∈ d.weights P e → n ∈ DataW.weightsAll P e l
  | [], h, _ => by simp at h
  | x :: l, h, hn => by
    simp only [DataW.weightsAll, List.mem_append]
    rcases List.mem_cons.1 h with rfl | h
    · exact .inl hn
    · exact .inr (weights_all h hn)
theorem bytes8 : Try.prog.bytesOf 5 = 1 := by kernel_rfl
theorem read_rowsZ {H : Type} {enc : TypeId × Value → H} {W : World} {bs : Nat} {v : Value} {d : DataW H} {p : List MemPlace}
    (hv : Value.okWide Try.prog W .any bs 22 v) (h : DataW.Trod enc Try.prog W 0 (fun _ => true) true 22 v d p) (hz : ∀ n ∈ d.weights Try.prog 22, n ≤ reachBytes) :
    ∃ (P : Option Addr) (m c : Nat) (rs : List R8), v = .slice P m c ∧ RowsB W P m c rs ∧ ∀ r ∈ rs, r.n ≤ 140737488351232 := by
  obtain ⟨a, len, cap, rfl⟩ := okWide_slice Try.underlying22 hv
  obtain ⟨fuel, hf⟩ := h
  rcases open_int_rows Try.underlying22 Try.underlying36 Try.underlying5 (by kernel_rfl) (by kernel_rfl) hf with ⟨hcs, _⟩ | ⟨a', len', cap', A, L, C, Z, hcs, _, hl, hm, hx, hr⟩
  · simp [Value.cells] at hcs
    obtain ⟨rfl, rfl, rfl⟩ := hcs
    exact ⟨none, 0, 0, [], rfl, ⟨rfl, Nat.le_refl _, by omega, ⟨.inl rfl, by simp⟩⟩, by simp⟩
  · simp [Value.cells] at hcs
    obtain ⟨rfl, rfl, rfl⟩ := hcs
    have hd : d = .slice ((List.range len).map fun r => intRow .u8 (A r) (L r) (Z r)) ((List.range (cap - len)).map fun j => intRow .u8 (A (len + j)) (L (len + j)) (Z (len + j))) := congrArg Prod.fst hx
    unfold maxLen at hm
    let rs : List R8 := (List.range len).map fun r => ⟨A r, L r, C r, (Z r).take (L r)⟩
    have hrs : rs.length = len := by simp [rs]
    have hg : ∀ i, i < len → rs.getD i r80 = ⟨A i, L i, C i, (Z i).take (L i)⟩ := by
      intro i hi
      rw [List.getD_eq_getElem?_getD, List.getElem?_eq_getElem (by rw [hrs]; exact hi)]
      simp [rs]
    have hin : ∀ r, r < len → InR W ⟨A r, L r, C r, (Z r).take (L r)⟩ := by
      intro r hlt
      obtain ⟨hc, h1, h2, h3, h4, h5, h6⟩ := hr r (by omega)
      have hrow : IsRow .u8 W (A r) (L r) (C r) (Z r) := by
        cases hA : A r with
        | none =>
          have h0 := h5 hA
          have hz : Z r = [] := List.eq_nil_of_length_eq_zero (by omega)
          exact .inl ⟨rfl, by omega, h0, hz⟩
        | some x => exact .inr ⟨x, rfl, h1, h2, h3, fun i hi => (h6 x hA).2 i (by omega), h4⟩
      obtain ⟨q1, q2, q3, q4⟩ := has_of_row hrow
      unfold maxLen at h2
      exact ⟨q1, q2, h1, by omega, fun z hz => bounds_u8 (q4 z hz)⟩
    refine ⟨some a', len, cap, rs, rfl, ⟨hrs, hl, by omega, ⟨?_, ?_⟩⟩, ?_⟩
    · rcases Nat.eq_zero_or_pos len with h0 | h0
      · exact .inl (List.eq_nil_of_length_eq_zero (by omega))
      · right
        obtain ⟨b, off, spot⟩ := a'
        have hc0 := (hr 0 (by omega)).1
        have hspot : spot = none := by simpa [Addr.add] using World.cell?_spot hc0
        subst hspot
        rw [addr_add] at hc0
        refine ⟨b, off, rfl, lt_of_cell hc0, fun i hi => ?_⟩
        rw [hg i (by omega), ← addr_add]
        exact (hr i (by omega)).1
    · intro r hr2
      obtain ⟨i, hi, rfl⟩ := List.mem_map.1 hr2
      exact hin i (List.mem_range.1 hi)
    · intro r hr2
      obtain ⟨i, hi, rfl⟩ := List.mem_map.1 hr2
      have hi2 := List.mem_range.1 hi
      obtain ⟨_, h1, h2, h3, h4, h5, h6⟩ := hr i (by omega)
      show L i ≤ 140737488351232
      rcases hA : A i with _ | x
      · have := h5 hA; omega
      · have h7 := hz ((lits (H := H) .u8 ((Z i).take (L i))).length + (lits (H := H) .u8 ((Z i).drop (L i))).length) (by
          rw [hd]
          simp only [DataW.weights, Try.underlying22, List.mem_cons, List.mem_append]
          refine .inr (.inl (weights_all (List.mem_map.2 ⟨i, hi, rfl⟩) ?_))
          rw [hA]
          simp only [intRow, DataW.weights, Try.underlying36, bytes8, Nat.mul_one, List.mem_cons, true_or])
        simp only [lits, List.length_map, List.length_take, List.length_drop, reachBytes] at h7
        omega
end Go.Proofs.Ytacllaeccdgnmaa.base
