/- What came in: filters, and lists of them; bytes. -/
import Derived.Test.YtbfodmckgjeoaaaFiIn
import Derived.Test.YtbfodmckgjeoaaaSlotAdd
import Derived.ChangeArms
import Derived.Lib.SmallJoins
import Derived.OpenShut
namespace Go.Proofs.Ytbfodmckgjeoaaa.base
set_option maxRecDepth 100000
open Go.ChangeShapes Go.WideShapes Go.ChangeAt Go.RowKit Go.Joins
open Go.Proofs.Ytbfodmckgjeoaaa.fiP Go.Proofs.Ytbfodmckgjeoaaa.fiW
set_option maxRecDepth 100000
theorem ib_of {w : World} {a : Option Addr} {len cap : Nat} {z : List Int} (h : IsRow .u8 w a len cap z) : Ib w a len cap (z.take len) := by
  obtain ⟨h1, h2, h3, h4⟩ := has_of_row h
  refine ⟨h1, h2, ?_, ?_, fun x hx => bounds_u8 (h4 x hx)⟩
  · rcases h with ⟨_, rfl, rfl, _⟩ | ⟨x, _, h, _⟩
    · exact Nat.le_refl _
    · exact h
  · rcases h with ⟨_, rfl, rfl, _⟩ | ⟨x, _, _, h, _⟩
    · omega
    · unfold maxLen at h; omega
theorem read_filter {H : Type} {enc : TypeId × Value → H} {W : World} {bs : Nat} {v : Value} {d : DataW H} {p : List MemPlace}
    (hv : Value.okWide Try.prog W .any bs 23 v) (h : DataW.Trod enc Try.prog W 0 (fun _ => true) true 23 v d p) :
    ∃ (k n : Int), v = .agg #[.int .u8 k, .int .i64 n] ∧ (0 ≤ k ∧ k ≤ 255) ∧ (-9223372036854775808 ≤ n ∧ n ≤ 9223372036854775807) := by
  obtain ⟨v0, v1, y0, y1, k, rfl, rfl, rfl, t0, t1⟩ := open_agg2 Try.underlying23 (by kernel_rfl) (by kernel_rfl) hv h
  obtain ⟨a, e0, rfl, wa⟩ := DataW.trod_int Try.underlying5 t0
  obtain ⟨b, e1, rfl, wb⟩ := DataW.trod_int Try.underlying3 t1
  simp at e0 e1
  subst e0 e1
  exact ⟨a, b, rfl, bounds_u8 wa, bounds_i64 wb⟩
theorem filter_cells {H : Type} {enc : TypeId × Value → H} {W : World} {fuel : Nat} {l : List Value} {y : DataW H × List MemPlace}
    (hf : DataW.trod enc Try.prog W 0 (fun _ => true) true fuel 23 l = some y) : ∃ a n : Int, l = [.int .u8 a, .int .i64 n] ∧ (0 ≤ a ∧ a ≤ 255) ∧ (-9223372036854775808 ≤ n ∧ n ≤ 9223372036854775807) := by
  have hc2 : Try.prog.cellsOf 23 = 2 := by kernel_rfl
  have hc1 : Try.prog.cellsOf 5 = 1 := by kernel_rfl
  have hc8 : Try.prog.cellsOf 3 = 1 := by kernel_rfl
  obtain ⟨xs, m, -, -, hl, hx, hall⟩ := DataW.trod_struct Try.underlying23 hf
  have hx2 : xs.length = 2 := hx
  rw [hc2] at hl
  match l, hl with
  | [c, r], hl =>
    have h0 : DataW.trod enc Try.prog W 0 (fun _ => true) true m 5 (List.take (Try.prog.cellsOf 5) (List.drop 0 [c, r])) = xs[0]? := hall 0 _ rfl
    have h1 : DataW.trod enc Try.prog W 0 (fun _ => true) true m 3 (List.take (Try.prog.cellsOf 3) (List.drop 1 [c, r])) = xs[1]? := hall 1 _ rfl
    rw [List.getElem?_eq_getElem (by omega)] at h0 h1
    rw [hc1] at h0
    rw [hc8] at h1
    obtain ⟨a0, e0, -, w0⟩ := DataW.trod_int Try.underlying5 h0
    obtain ⟨a1, e1, -, w1⟩ := DataW.trod_int Try.underlying3 h1
    have q0 : c = .int .u8 a0 := by injection e0
    have q1 : r = .int .i64 a1 := by injection e1
    exact ⟨a0, a1, by rw [q0, q1], bounds_u8 w0, bounds_i64 w1⟩
theorem read_filters {H : Type} {enc : TypeId × Value → H} {W : World} {bs : Nat} {v : Value} {d : DataW H} {p : List MemPlace}
    (hv : Value.okWide Try.prog W .any bs 35 v) (h : DataW.Trod enc Try.prog W 0 (fun _ => true) true 35 v d p) :
    ∃ (A : Option Addr) (n c : Nat) (fs : List (Int × Int)), v = .slice A n c ∧ InF W A n c fs := by
  obtain ⟨A, n, c, rfl⟩ := okWide_slice Try.underlying35 hv
  obtain ⟨fuel, hf⟩ := h
  rcases DataW.trod_slice Try.underlying35 hf with ⟨e, -⟩ | ⟨ad, len, cap, elems, rest, m, -, e, -, hb, hl, hm, hlen, hel, -, -⟩
  · simp [Value.cells] at e
    obtain ⟨rfl, rfl, rfl⟩ := e
    exact ⟨none, 0, 0, [], rfl, .inl rfl, rfl, Nat.le_refl _, by omega, by simp⟩
  · simp [Value.cells] at e
    obtain ⟨rfl, rfl, rfl⟩ := e
    have hc2 : Try.prog.cellsOf 23 = 2 := by kernel_rfl
    unfold maxLen at hm
    have hcell : ∀ i, i < n → ∃ a q : Int, W.cell? (ad.add (i * 2)) = some (.int .u8 a) ∧ W.cell? (ad.add (i * 2 + 1)) = some (.int .i64 q) ∧ (0 ≤ a ∧ a ≤ 255) ∧ (-9223372036854775808 ≤ q ∧ q ≤ 9223372036854775807) := by
      intro i hi
      have h1 := hel i hi
      rw [hc2, List.getElem?_eq_getElem (by omega)] at h1
      obtain ⟨cs, h2, h3⟩ := Option.bind_eq_some_iff.1 h1
      obtain ⟨a, q, rfl, h5, h6⟩ := filter_cells h3
      obtain ⟨-, -, h8⟩ := World.cells?_some h2
      have g0 := h8 0 (by omega)
      have g1 := h8 1 (by omega)
      rw [add_add] at g0 g1
      exact ⟨a, q, g0, g1, h5, h6⟩
    let cv : Nat → Int := fun q => match W.cell? (ad.add (q * 2)) with | some (.int .u8 z) => z | _ => 0
    let cw : Nat → Int := fun q => match W.cell? (ad.add (q * 2 + 1)) with | some (.int .i64 z) => z | _ => 0
    have hcv : ∀ q, q < n → W.cell? (ad.add (q * 2)) = some (.int .u8 (cv q)) ∧ W.cell? (ad.add (q * 2 + 1)) = some (.int .i64 (cw q)) ∧ (0 ≤ cv q ∧ cv q ≤ 255) ∧ (-9223372036854775808 ≤ cw q ∧ cw q ≤ 9223372036854775807) := by
      intro q hq
      obtain ⟨a, z, h1, h2, h3, h4⟩ := hcell q hq
      have e1 : cv q = a := by simp only [cv, h1]
      have e2 : cw q = z := by simp only [cw, h2]
      rw [e1, e2]
      exact ⟨h1, h2, h3, h4⟩
    refine ⟨some ad, n, c, (List.range n).map (fun q => (cv q, cw q)), rfl, ?_, by simp, hl, by omega, ?_⟩
    · rcases Nat.eq_zero_or_pos n with h0 | h0
      · subst h0; exact .inl rfl
      · right
        obtain ⟨b, off, spot⟩ := ad
        have hc0 := (hcv 0 (by omega)).1
        have hspot : spot = none := by simpa [Addr.add] using World.cell?_spot hc0
        subst hspot
        rw [addr_add] at hc0
        refine ⟨b, off, rfl, lt_of_cell hc0, fun i hi => ?_⟩
        have hi2 : i < n := by simpa using hi
        have e : ((List.range n).map (fun q => (cv q, cw q))).getD i (0, 0) = (cv i, cw i) := by
          rw [List.getD_eq_getElem?_getD, List.getElem?_map, List.getElem?_range hi2]; rfl
        rw [e, ← addr_add, Nat.add_assoc, ← addr_add]
        exact ⟨(hcv i hi2).1, (hcv i hi2).2.1⟩
    · intro z hz
      obtain ⟨q, hq, rfl⟩ := List.mem_map.1 hz
      exact (hcv q (List.mem_range.1 hq)).2.2
end Go.Proofs.Ytbfodmckgjeoaaa.base
