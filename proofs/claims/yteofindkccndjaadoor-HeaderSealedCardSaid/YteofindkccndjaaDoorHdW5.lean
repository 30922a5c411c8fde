/- What Parse wants: partial values; a header built. -/
import Derived.Test.YteofindkccndjaaDoorHdW4
import Derived.Laws.Tables
namespace Go.Proofs.YteofindkccndjaaDoor.hdP
set_option maxRecDepth 100000
def cv (b : List Int) (i k : Nat) : Int := if k = 0 then 0 else if k = wdN i then vaN (of_ b) i else b.getD (atN i) 0
def pvL (b : List Int) (i k : Nat) : List Int := [0, 1, 2, 3, 4].map fun j => if j < i then vaN (of_ b) j else if j = i then cv b i k else 0
theorem pv_0 (b : List Int) : pvL b 0 0 = [0, 0, 0, 0, 0] := rfl
theorem pv_5 (b : List Int) : pvL b 5 0 = [(of_ b).mo, (of_ b).me, (of_ b).of, (of_ b).ra, (of_ b).le] := rfl
theorem pv_at (b : List Int) {i : Nat} (k : Nat) (h : i < 5) : (pvL b i k)[i]? = some (cv b i k) := by
  rcases five_cases h with rfl | rfl | rfl | rfl | rfl <;> simp [pvL]
theorem pv_set (b : List Int) {i k : Nat} (h : i < 5) (x : Int) (hx : x = cv b i (k + 1)) : (pvL b i k).set i x = pvL b i (k + 1) := by
  subst hx
  rcases five_cases h with rfl | rfl | rfl | rfl | rfl <;> simp [pvL]
theorem pv_next (b : List Int) {i : Nat} (h : i < 5) : pvL b i (wdN i) = pvL b (i + 1) 0 := by
  rcases five_cases h with rfl | rfl | rfl | rfl | rfl <;> simp [pvL, cv, wdN]
theorem cv_step (b : List Int) {i k : Nat} (h : i < 5) (hk : k < wdN i) : cv b i (k + 1) = 256 * cv b i k + b.getD (atN i + k) 0 := by
  rcases five_cases h with rfl | rfl | rfl | rfl | rfl
  · obtain rfl : k = 0 := by simp [wdN] at hk; omega
    simp [cv, wdN, atN, vaN, of_]
  · obtain rfl : k = 0 := by simp [wdN] at hk; omega
    simp [cv, wdN, atN, vaN, of_]
  · rcases (show k = 0 ∨ k = 1 by simp [wdN] at hk; omega) with rfl | rfl <;> simp [cv, wdN, atN, vaN, of_]
  · rcases (show k = 0 ∨ k = 1 by simp [wdN] at hk; omega) with rfl | rfl <;> simp [cv, wdN, atN, vaN, of_]
  · rcases (show k = 0 ∨ k = 1 by simp [wdN] at hk; omega) with rfl | rfl <;> simp [cv, wdN, atN, vaN, of_]
theorem cv_bd {b : List Int} (hb : ∀ i, 0 ≤ b.getD i 0 ∧ b.getD i 0 ≤ 255) {i k : Nat} (hk : k < wdN i) : 0 ≤ cv b i k ∧ cv b i k ≤ 255 := by
  unfold cv
  split
  · omega
  · rw [if_neg (by omega)]; exact hb _
end Go.Proofs.YteofindkccndjaaDoor.hdP
namespace Go.Proofs.YteofindkccndjaaDoor.hdW
set_option maxRecDepth 100000
open Go.RowKit Go.Proofs.YteofindkccndjaaDoor.base Go.Proofs.YteofindkccndjaaDoor.hdP
set_option linter.unusedVariables false
set_option linter.unusedSimpArgs false
set_option maxRecDepth 100000
theorem match20 {s : List Int} (h : s.length = 20) : ∃ a b c d e f g i j k l m n o p q r t u v : Int, s = [a, b, c, d, e, f, g, i, j, k, l, m, n, o, p, q, r, t, u, v] := by
  match s, h with
  | [a, b, c, d, e, f, g, i, j, k, l, m, n, o, p, q, r, t, u, v], _ => exact ⟨a, b, c, d, e, f, g, i, j, k, l, m, n, o, p, q, r, t, u, v, rfl⟩
theorem built_all (mo me of ra le : Int) (s : List Int) (h : s.length = 20) : Tryd.prog.built 25 [(0, .int .u8 mo), (1, .int .i64 me), (2, .int .i64 of), (3, .int .i64 ra), (4, .int .i64 le), (5, .agg (sv s).toArray)] = some (hv ⟨mo, me, of, ra, le, s⟩) := by
  obtain ⟨a, b, c, d, e, f, g, i, j, k, l, m, n, o, p, q, r, t, u, v, rfl⟩ := match20 h
  kernel_rfl
theorem built_five (mo me of ra le : Int) : Tryd.prog.built 25 [(0, .int .u8 mo), (1, .int .i64 me), (2, .int .i64 of), (3, .int .i64 ra), (4, .int .i64 le)] = some (hv ⟨mo, me, of, ra, le, List.replicate 20 0⟩) := by kernel_rfl
theorem quiet_build {o : Oper} {a : Act} {w : World} {C : World → Prop} {cells : Array Value} (t : TypeId) (parts : Array (Nat × Operand)) (ho : o.op = .build t parts) (hc : Tryd.prog.built t (parts.map fun (i, x) => (i, a.eval x)).toList = some cells) :
    Oper.quietAt Tryd.prog o a C w (.agg cells) := by
  unfold Oper.quietAt execOp
  simp only [ho, Sem.run_bind, run_build w t _ cells hc, Result.andThen_ok]
  exact ⟨rfl, rfl⟩
theorem bld_all (w : World) (mo me of ra le : Int) (s : List Int) (h : s.length = 20) : (Instr.build 25 #[(0, .int .u8 mo), (1, .int .i64 me), (2, .int .i64 of), (3, .int .i64 ra), (4, .int .i64 le), (5, .agg (sv s).toArray)]).run Tryd.prog w = .ok (.agg (hv ⟨mo, me, of, ra, le, s⟩)) w := by
  obtain ⟨a, b, c, d, e, f, g, i, j, k, l, m, n, o, p, q, r, t, u, v, rfl⟩ := match20 h
  exact run_build w _ _ _ (by kernel_rfl)
theorem bld_five (w : World) (mo me of ra le : Int) : (Instr.build 25 #[(0, .int .u8 mo), (1, .int .i64 me), (2, .int .i64 of), (3, .int .i64 ra), (4, .int .i64 le)]).run Tryd.prog w = .ok (.agg (hv ⟨mo, me, of, ra, le, List.replicate 20 0⟩)) w := run_build w _ _ _ (by kernel_rfl)
theorem bld_nul (w : World) : (Instr.build 25 #[]).run Tryd.prog w = .ok (.agg (hv nul)) w := run_build w _ _ _ (by kernel_rfl)
theorem zv_nul (w : World) : (zeroValue 25).run Tryd.prog w = .ok (.agg (hv nul)) w := by kernel_rfl
theorem hv_one (h : Hd) : ∀ v ∈ (hv h).toList, v.oneCell' = true := by
  intro v hv'
  unfold hv hl sv at hv'
  simp only [List.toList_toArray, List.mem_cons, List.mem_map] at hv'
  rcases hv' with rfl | rfl | rfl | rfl | rfl | ⟨_, _, rfl⟩ <;> rfl
theorem bitor_lo {a b : Int} (ha : 0 ≤ a ∧ a ≤ 255) (hb : 0 ≤ b ∧ b ≤ 255) : bits .or .i64 (a * 256) b = 256 * a + b := by
  obtain ⟨a, rfl⟩ := Int.eq_ofNat_of_zero_le ha.1
  obtain ⟨c, rfl⟩ := Int.eq_ofNat_of_zero_le hb.1
  have e0 : ((a : Int) * 256) = ((2 ^ 8 * a : Nat) : Int) := by omega
  rw [e0]
  have hl : c < 2 ^ 8 := by omega
  have q : (2 : Nat) ^ 64 = 18446744073709551616 := by decide
  show IntKind.i64.wrap (((BitVec.ofInt 64 ((2 ^ 8 * a : Nat) : Int)) ||| (BitVec.ofInt 64 (c : Int))).toNat : Int) = _
  rw [BitVec.toNat_or, BitVec.ofInt_natCast, BitVec.ofInt_natCast, BitVec.toNat_ofNat, BitVec.toNat_ofNat, Nat.mod_eq_of_lt (by omega), Nat.mod_eq_of_lt (by omega), ← Nat.two_pow_add_eq_or_of_lt hl a, IntKind.wrap_i64]
  omega
end Go.Proofs.YteofindkccndjaaDoor.hdW
