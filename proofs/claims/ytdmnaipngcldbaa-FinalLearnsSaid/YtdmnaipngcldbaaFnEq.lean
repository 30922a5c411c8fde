/- Pairs of numbers compared with themselves. -/
import Derived.Test.YtdmnaipngcldbaaFnW5
import Derived.DeepKeys
namespace Go.Proofs.Ytdmnaipngcldbaa.base
set_option maxRecDepth 100000
open Go.ChangeShapes Go.WideShapes Go.ChangeAt Go.RowKit
theorem i2_cells {H : Type} {enc : TypeId × Value → H} {W : World} {fuel : Nat} {c0 c1 : Value} {y : DataW H × List MemPlace}
    (hf : DataW.trod enc Try.prog W 0 (fun _ => true) true fuel 27 [c0, c1] = some y) : ∃ a b : Int, c0 = .int .i64 a ∧ c1 = .int .i64 b ∧ (-9223372036854775808 ≤ a ∧ a ≤ 9223372036854775807) ∧ -9223372036854775808 ≤ b ∧ b ≤ 9223372036854775807 := by
  obtain ⟨xs, m, -, -, -, hx, hall⟩ := DataW.trod_array Try.underlying27 hf
  have hc1 : Try.prog.cellsOf 3 = 1 := by kernel_rfl
  rw [hc1] at hall
  have go : ∀ (i : Nat) (hi : i < 2) (c : Value), (List.take 1 (List.drop (i * 1) [c0, c1])) = [c] → ∃ a : Int, c = .int .i64 a ∧ -9223372036854775808 ≤ a ∧ a ≤ 9223372036854775807 := by
    intro i hi c hc
    have h1 := hall i hi
    rw [hc, List.getElem?_eq_getElem (by omega)] at h1
    obtain ⟨a, e0, -, wa⟩ := DataW.trod_int Try.underlying3 h1
    simp at e0
    have x := bounds_i64 wa
    exact ⟨a, e0, x.1, x.2⟩
  obtain ⟨a0, e0, k0⟩ := go 0 (by omega) c0 rfl
  obtain ⟨a1, e1, k1⟩ := go 1 (by omega) c1 rfl
  exact ⟨a0, a1, e0, e1, k0, k1⟩
theorem read_i2 {H : Type} {enc : TypeId × Value → H} {W : World} {bs : Nat} {v : Value} {d : DataW H} {p : List MemPlace}
    (hv : Value.okWide Try.prog W .any bs 27 v) (h : DataW.Trod enc Try.prog W 0 (fun _ => true) true 27 v d p) : ∃ a b : Int, v = .agg #[.int .i64 a, .int .i64 b] ∧ (-9223372036854775808 ≤ a ∧ a ≤ 9223372036854775807) ∧ -9223372036854775808 ≤ b ∧ b ≤ 9223372036854775807 := by
  simp only [Value.okWide, Try.underlying27] at hv
  obtain ⟨cs, rfl, hs, -⟩ := hv
  have hs : cs.size = 2 := by rw [hs]; kernel_rfl
  obtain ⟨fuel, hf⟩ := h
  rcases cs with ⟨l⟩
  simp only [List.size_toArray] at hs
  match l, hs with
  | [c0, c1], _ =>
    have h2 : (Value.agg { toList := [c0, c1] }).cells.toList = [c0, c1] := rfl
    rw [h2] at hf
    obtain ⟨a, b, rfl, rfl, k0, k1⟩ := i2_cells hf
    exact ⟨a, b, rfl, k0, k1⟩
end Go.Proofs.Ytdmnaipngcldbaa.base
namespace Go.Proofs.Ytdmnaipngcldbaa.fnW
set_option maxRecDepth 100000
open Go.RowKit Go.Proofs.Ytdmnaipngcldbaa.base
set_option linter.unusedVariables false
set_option linter.unusedSimpArgs false
theorem i64_wf {x : Int} (h : -9223372036854775808 ≤ x ∧ x ≤ 9223372036854775807) : (Lit.int .i64 x).wf = true := WalkArith.wf_i64 h
theorem one_lit64 {x : Int} (h : -9223372036854775808 ≤ x ∧ x ≤ 9223372036854775807) (d : Nat) : Try.prog.keyLits (d + 1) 3 [.int .i64 x] = some [.int .i64 x] := by
  have hw := i64_wf h
  unfold Program.keyLits
  rw [Try.underlying3]
  simp [hw]
theorem lits2 {a b : Int} (ha : -9223372036854775808 ≤ a ∧ a ≤ 9223372036854775807) (hb : -9223372036854775808 ≤ b ∧ b ≤ 9223372036854775807) : Try.prog.keyLits 5 27 [.int .i64 a, .int .i64 b] = some [.int .i64 a, .int .i64 b] := by
  unfold Program.keyLits
  rw [Try.underlying27]
  have c1 : Try.prog.cellsOf 27 = 2 := by kernel_rfl
  have c2 : Try.prog.cellsOf 3 = 1 := by kernel_rfl
  have e1 := one_lit64 ha 3
  have e2 := one_lit64 hb 3
  simp [c1, c2, List.range, List.range.loop, e1, e2]
theorem eq2 {a b : Int} (ha : -9223372036854775808 ≤ a ∧ a ≤ 9223372036854775807) (hb : -9223372036854775808 ≤ b ∧ b ≤ 9223372036854775807) (w : World) : (Op.equalIn 9999 27 (.agg #[.int .i64 a, .int .i64 b]) (.agg #[.int .i64 a, .int .i64 b])).run Try.prog w = .ok true w := by
  obtain ⟨x, h1, h2⟩ := run_equalIn_deep (P := Try.prog) 9997 2 27 (by kernel_rfl) w 5 5 (.agg #[.int .i64 a, .int .i64 b]) (.agg #[.int .i64 a, .int .i64 b]) _ _ (by kernel_rfl) (by kernel_rfl) (lits2 ha hb) (lits2 ha hb)
  rw [h2.2 rfl] at h1
  exact h1
theorem eq2t {a b : Int} (ha : -9223372036854775808 ≤ a ∧ a ≤ 9223372036854775807) (hb : -9223372036854775808 ≤ b ∧ b ≤ 9223372036854775807) (w : World) : (Op.equalIn 10000 27 (.agg #[.int .i64 a, .int .i64 b]) (.agg #[.int .i64 a, .int .i64 b])).run Try.prog w = .ok true w := by
  obtain ⟨x, h1, h2⟩ := run_equalIn_deep (P := Try.prog) 9998 2 27 (by kernel_rfl) w 5 5 (.agg #[.int .i64 a, .int .i64 b]) (.agg #[.int .i64 a, .int .i64 b]) _ _ (by kernel_rfl) (by kernel_rfl) (lits2 ha hb) (lits2 ha hb)
  rw [h2.2 rfl] at h1
  exact h1
end Go.Proofs.Ytdmnaipngcldbaa.fnW
