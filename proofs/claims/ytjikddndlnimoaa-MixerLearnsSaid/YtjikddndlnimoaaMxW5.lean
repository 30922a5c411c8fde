/- New mixers, by walks. -/
import Derived.Test.YtjikddndlnimoaaMxW4
namespace Go.Proofs.Ytjikddndlnimoaa.mxP
set_option maxRecDepth 100000
open Go.Proofs.Ytjikddndlnimoaa.base Go.Proofs.Ytjikddndlnimoaa.rfP Go.Proofs.Ytjikddndlnimoaa.sqP Go.Proofs.Ytjikddndlnimoaa.fixP
def newME (n : Int) : Int := if 1 ≤ n ∧ n ≤ 256 then 0 else 2
def newMV (n weight : Int) : List (List Int) := if 1 ≤ n ∧ n ≤ 256 then List.replicate n.toNat (List.replicate 8 weight) else []
def wF (weight : Int) (k : Nat) : List Int := fill 0 (List.replicate 8 weight) k
theorem wF_0 (x : Int) : wF x 0 = List.replicate 8 0 := by unfold wF; rw [fill_zero, List.length_replicate]
theorem wF_8 (x : Int) : wF x 8 = List.replicate 8 x := by unfold wF; rw [fill_all (by rw [List.length_replicate]; exact Nat.le_refl _)]
theorem wF_set (x : Int) (k : Nat) (h : k < 8) : (wF x k).set k x = wF x (k + 1) := by
  have e : (List.replicate 8 x).getD k 0 = x := by rw [List.getD_eq_getElem?_getD, List.getElem?_eq_getElem (by rw [List.length_replicate]; exact h), List.getElem_replicate]; rfl
  unfold wF
  rw [← fill_set (by rw [List.length_replicate]; exact h) 0, e]
theorem wF_len (x : Int) (k : Nat) (h : k ≤ 8) : (wF x k).length = 8 := by unfold wF; rw [fill_len (by rw [List.length_replicate]; exact h), List.length_replicate]
attribute [irreducible] wF
end Go.Proofs.Ytjikddndlnimoaa.mxP
namespace Go.Proofs.Ytjikddndlnimoaa.mxW
set_option maxRecDepth 100000
open Go.RowKit Go.Proofs.Ytjikddndlnimoaa.base Go.Proofs.Ytjikddndlnimoaa.rfP Go.Proofs.Ytjikddndlnimoaa.mxP Go.Proofs.Ytjikddndlnimoaa.sqP Go.Proofs.Ytjikddndlnimoaa.sqW Go.Proofs.Ytjikddndlnimoaa.fixP Go.Proofs.Ytjikddndlnimoaa.fixW
set_option linter.unusedVariables false
set_option linter.unusedSimpArgs false
set_option maxHeartbeats 800000 in
/-- Rows, each told by a function that makes one. -/
theorem filledL_any (C : Value) (m : Nat) (row : Nat → List Int) (w : World) (hm : m ≤ 256) (hrow : ∀ i, i < m → (row i).length = 8 ∧ ∀ z ∈ row i, -2147483648 ≤ z ∧ z ≤ 2147483647)
    (hf : ∀ (i : Nat) (W : World), i < m → Below w.heap.size w W → Calls Try.prog 13 #[.int .i64 i, C] W fun e w' => ∃ g c, e = .returned (.slice (some ⟨g, 0, none⟩) 8 c) ∧ OwnI w' W.heap.size 21 .i32 (.slice (some ⟨g, 0, none⟩) 8 c) (row i) ∧ Below W.heap.size W w') :
    Calls Try.prog 12 #[.int .i64 m, .func (Fn.func 13) #[] #[C]] w fun e w' => ∃ rs, e = .returned (.slice (some ⟨w.heap.size, 0, none⟩) m m) ∧ OwnR w' w.heap.size (.slice (some ⟨w.heap.size, 0, none⟩) m m) rs ∧ rs.length = m ∧ (∀ i, i < m → (rs.getD i ry0).b = row i) ∧ Below w.heap.size w w' := by
  have HF := Lib.hid hf
  have HRW := Lib.hid hrow
  have HM := Lib.hid hm
  have m9 : (m : Int) ≤ 256 := by omega
  clear hf hrow hm
  go_enter Try.func12, Try.ntmps12
  go_wp2_with (at_make; refine makeRY rfl _ _ rfl .i64 .i64 m rfl rfl (by have := HM.out; omega) w.heap.size (Nat.le_refl _) ?_; intro w1 ho1 hb1; have HO1 := Lib.hid ho1; have HB1 := Lib.hid hb1; clear ho1 hb1)
  go_loopw [11] (fun iv wr => ∃ (k : Nat) (rs : List RY), k ≤ m ∧ iv = .int .i64 k ∧ rs.length = m ∧ (∀ i, i < k → (rs.getD i ry0).b = row i) ∧ OwnR wr w.heap.size (.slice (some ⟨w.heap.size, 0, none⟩) m m) rs ∧ Below w.heap.size w wr) (fun iv _ => m - (intOf iv).toNat)
  case atStart => exact ⟨0, List.replicate m ry0, by omega, rfl, List.length_replicate .., fun i hi => absurd hi (Nat.not_lt_zero _), HO1.out, HB1.out⟩
  case round =>
    obtain ⟨k, rs, hk, rfl, hl, hr, ho, hb⟩ := hrel
    have HL := Lib.hid (And.intro hl hr)
    have HO := Lib.hid ho
    have HB := Lib.hid hb
    clear ho hb hl hr
    by_cases hlt : k < m
    · have HLT := Lib.hid hlt
      have k1 : (k : Int) < m := by omega
      have k0 : 0 ≤ (k : Int) := by omega
      clear hlt hk
      go_wp2_with fail
      refine (HF.out k wr HLT.out HB.out).mono ?_
      rintro e w2 ⟨gc, cc, rfl, oc, bc⟩
      have HN : Hid (OwnR w2 w.heap.size (.slice (some ⟨w.heap.size, 0, none⟩) m m) rs ∧ OneR w2 w.heap.size ⟨some ⟨gc, 0, none⟩, 8, cc, row k⟩ ∧ (∀ j, j < rs.length → j ≠ k → RApart (rs.getD j ry0) ⟨some ⟨gc, 0, none⟩, 8, cc, row k⟩ ∧ RApart ⟨some ⟨gc, 0, none⟩, 8, cc, row k⟩ (rs.getD j ry0)) ∧ Below w.heap.size w w2) := Lib.hid ⟨HO.out.past bc, (oneR_of oc (HRW.out k HLT.out).2).mono HB.out.size, fun j hj _ => apart_new (HO.out.one j hj) (oneR_of oc (HRW.out k HLT.out).2) (Nat.le_refl _), below_bs HB.out bc⟩
      have f1 : w2.cell? ⟨w.heap.size, k, none⟩ = some (.slice (rs.getD k ry0).A (rs.getD k ry0).n (rs.getD k ry0).c) := HN.out.1.cell k (by rw [HL.out.1]; exact HLT.out)
      have f2 : w2.frozen? ⟨w.heap.size, k, none⟩ = false := HN.out.1.frozen k
      clear oc bc
      go_wp2_with fail
      go_roundw
      case rel =>
        refine ⟨k + 1, rs.set k ⟨some ⟨gc, 0, none⟩, 8, cc, row k⟩, by have := HLT.out; omega, by go_num, by rw [List.length_set]; exact HL.out.1, fun i hi => ?_, HN.out.1.put k ⟨some ⟨gc, 0, none⟩, 8, cc, row k⟩ HN.out.2.1 HN.out.2.2.1, HN.out.2.2.2.setCell (Nat.le_refl _) _⟩
        by_cases e : k = i
        · subst e; rw [gd_set_eq (by rw [HL.out.1]; exact HLT.out)]
        · rw [gd_set_ne e]; exact HL.out.2 i (by omega)
      case measure => simp [intOf]; have := HLT.out; omega
    · obtain rfl : k = m := by omega
      clear hlt hk
      go_wp2_with fail
      go_ret
      exact ⟨rs, rfl, HO.out, HL.out.1, HL.out.2, HB.out⟩
end Go.Proofs.Ytjikddndlnimoaa.mxW
