/- The program's Check of a refiner, by a walk. -/
import Derived.Test.YtdmnaipngcldbaaDoorRfBase
import Derived.Test.YtdmnaipngcldbaaDoorReg
import Derived.Test.YtdmnaipngcldbaaDoorBlock
import Derived.Lib.Hide
import Derived.StillTailTactics
namespace Go.Proofs.YtdmnaipngcldbaaDoor.rfW
set_option maxRecDepth 100000
open Go.RowKit Go.Proofs.YtdmnaipngcldbaaDoor.base Go.Proofs.YtdmnaipngcldbaaDoor.rfP
set_option linter.unusedVariables false
set_option linter.unusedSimpArgs false
theorem rfE_yes {l : List (List Int)} (h : rfB l = true) : rfE l = 0 := by unfold rfE; rw [if_pos h]
theorem rfE_no {l : List (List Int)} (h : rfB l = false) : rfE l = 8 := by unfold rfE; rw [h]; rfl
theorem rfB_len {l : List (List Int)} (h : ¬ (1 ≤ l.length ∧ l.length ≤ 256)) : rfB l = false := by
  cases hr : rfB l
  · rfl
  · exact absurd ⟨((rfB_iff l).1 hr).1, ((rfB_iff l).1 hr).2.1⟩ h
theorem rowB_len {z : List Int} (h : z.length ≠ 33) : rowB z = false := by
  cases hr : rowB z
  · rfl
  · exact absurd ((rowB_iff z).1 hr).1 h
set_option maxHeartbeats 2000000 in
theorem Check_any (P : Option Addr) (m c : Nat) (rs : List RY) (w : World) (h : RowsY w P m c rs) :
    Calls Tryd.prog 37 #[.agg #[.slice P m c]] w fun e w' => e = .returned (.int .i64 (rfE (numsY rs))) ∧ Below w.heap.size w w' := by
  have H := Lib.hid h
  have HLN : Hid (rs.length = m) := Lib.hid h.l
  have m9 : (m : Int) ≤ 9223372036854775807 := by have := h.c1; have := h.c2; omega
  by_cases a1 : (m : Int) < 1
  · rw [rfE_no (rfB_len (by rw [nums_len, HLN.out]; omega))]
    clear h
    go_enter Tryd.func37, Tryd.ntmps37
    go_wp2_with fail
    go_ret
    exact ⟨rfl, by (repeat' (first | (with_reducible exact Below.refl _ _) | (with_reducible assumption) | (with_reducible refine below_drewN ?_ _) | (with_reducible refine below_new ?_ _) | (with_reducible refine Below.alloc ?_ ?_ _) | (with_reducible refine Below.drew ?_) | (with_reducible refine Below.setCell ?_ ?_ _) | (with_reducible apply below_at; (case k => (with_reducible assumption)); (case hB => omega)) | (with_reducible apply below_on; (with_reducible assumption)) | (go_size; done) | (with_reducible apply size_of)))⟩
  by_cases a2 : (256 : Int) < m
  · rw [rfE_no (rfB_len (by rw [nums_len, HLN.out]; omega))]
    clear h
    go_enter Tryd.func37, Tryd.ntmps37
    go_wp2_with fail
    go_ret
    exact ⟨rfl, by (repeat' (first | (with_reducible exact Below.refl _ _) | (with_reducible assumption) | (with_reducible refine below_drewN ?_ _) | (with_reducible refine below_new ?_ _) | (with_reducible refine Below.alloc ?_ ?_ _) | (with_reducible refine Below.drew ?_) | (with_reducible refine Below.setCell ?_ ?_ _) | (with_reducible apply below_at; (case k => (with_reducible assumption)); (case hB => omega)) | (with_reducible apply below_on; (with_reducible assumption)) | (go_size; done) | (with_reducible apply size_of)))⟩
  have HM : Hid (1 ≤ m ∧ m ≤ 256) := Lib.hid (by omega)
  obtain ⟨b, off, rfl, hb, hc⟩ := h.h.some (by rw [HLN.out]; omega)
  have HB : Hid (Below w.heap.size w (w.alloc (.cells #[.slice (some ⟨b, off, none⟩) m c] 24))) := Lib.hid (by (repeat' (first | (with_reducible exact Below.refl _ _) | (with_reducible assumption) | (with_reducible refine below_drewN ?_ _) | (with_reducible refine below_new ?_ _) | (with_reducible refine Below.alloc ?_ ?_ _) | (with_reducible refine Below.drew ?_) | (with_reducible refine Below.setCell ?_ ?_ _) | (with_reducible apply below_at; (case k => (with_reducible assumption)); (case hB => omega)) | (with_reducible apply below_on; (with_reducible assumption)) | (go_size; done) | (with_reducible apply size_of))))
  have HC : Hid (∀ k, k < m → (w.alloc (.cells #[.slice (some ⟨b, off, none⟩) m c] 24)).cell? ⟨b, off + k, none⟩ = some (.slice (rs.getD k ry0).A (rs.getD k ry0).n (rs.getD k ry0).c)) := Lib.hid (fun k hk => by rw [HB.out.cell (p := ⟨b, _, none⟩) hb]; exact hc k (by rw [HLN.out]; exact hk))
  have HI : Hid (∀ k, k < m → InY (w.alloc (.cells #[.slice (some ⟨b, off, none⟩) m c] 24)) (rs.getD k ry0)) := Lib.hid (fun k hk => (h.h.get k (by rw [HLN.out]; exact hk)).below HB.out (Nat.le_refl _))
  clear h hc
  go_enter Tryd.func37, Tryd.ntmps37
  go_wp2_with fail
  generalize w.alloc (.cells #[.slice (some ⟨b, off, none⟩) m c] 24) = wo at *
  go_loopw [20] (fun iv wr => ∃ k : Nat, k ≤ m ∧ iv = .int .i64 k ∧ rowsB (numsY rs) k ∧ wr = wo) (fun iv _ => m - (intOf iv).toNat)
  case atStart => exact ⟨0, by omega, rfl, fun x hx => absurd hx (by omega), rfl⟩
  case round =>
    obtain ⟨k, hk, rfl, hro, rfl⟩ := hrel
    have HRO := Lib.hid hro
    by_cases hlt : k < m
    · have HLT := Lib.hid hlt
      have k1 : (k : Int) < m := by omega
      have k0 : 0 ≤ (k : Int) := by omega
      have z1 := HC.out k hlt
      have HIK := Lib.hid (HI.out k hlt)
      have HNA := Lib.hid (nums_at rs k (by rw [HLN.out]; exact hlt))
      have HNL : Hid (k < (numsY rs).length) := Lib.hid (by rw [nums_len, HLN.out]; exact hlt)
      generalize rs.getD k ry0 = r at *
      obtain ⟨A, n, d, z⟩ := r
      clear hk hro hlt
      by_cases hn : n = 33
      · subst hn
        have hz : z.length = 33 := HIK.out.e
        obtain ⟨b2, off2, hA, hb2, hc2⟩ := has_some HIK.out.h (by show 0 < z.length; omega)
        have hA : A = some ⟨b2, off2, none⟩ := hA
        subst hA
        have HC2 : Hid (∀ j, j < 33 → wr.cell? ⟨b2, off2 + j, none⟩ = some (.int .i32 (z.getD j 0))) := Lib.hid (fun j hj => hc2 j (by show j < z.length; omega))
        have HZL := Lib.hid hz
        clear hz hb2 hc2
        go_wp2_with fail
        go_loopw [29] (fun iv wz => ∃ j : Nat, j ≤ 33 ∧ iv = .int .i64 j ∧ upB z j ∧ wz = wr) (fun iv _ => 33 - (intOf iv).toNat)
        case atStart => exact ⟨0, by omega, rfl, fun x hx => absurd hx (by omega), rfl⟩
        case round =>
          obtain ⟨j, hj, rfl, hup, rfl⟩ := hrel
          have HUP := Lib.hid hup
          by_cases hlt : j < 33
          · have HJ := Lib.hid hlt
            have j1 : (j : Int) < 33 := by omega
            have j0 : 0 ≤ (j : Int) := by omega
            have z2 := HC2.out j hlt
            have HE : Hid (¬ (0 ≤ z.getD j 0 ∧ z.getD j 0 ≤ 65535) → rfE (numsY rs) = 8) := Lib.hid (fun hn => rfE_no (rowsB_not HNL.out (by rw [HNA.out]; exact upB_not (by rw [HZL.out]; exact hlt) hn)))
            have HU : Hid (0 ≤ z.getD j 0 ∧ z.getD j 0 ≤ 65535 → upB z (j + 1)) := Lib.hid (fun hn x hx => by
              rcases Nat.lt_or_ge x j with h1 | h1
              · exact hup x h1
              · have : x = j := by omega
                subst this
                exact hn)
            generalize z.getD j 0 = y at *
            clear hj hup hlt
            by_cases c1 : y < 0
            · go_wp2_with fail
              refine bodyPost_ret (by simp [results, Tryd.results37, go_sem, ]; try rfl) rfl ?_
              exact ⟨by rw [HE.out (by omega)], HB.out⟩
            by_cases c2 : 65535 < y
            · have c1' : decide (y < 0) = false := decide_eq_false c1
              have c3 : 0 ≤ y := by omega
              clear c1
              go_wp2_with fail
              refine bodyPost_ret (by simp [results, Tryd.results37, go_sem, ]; try rfl) rfl ?_
              exact ⟨by rw [HE.out (by omega)], HB.out⟩
            · go_wp2_with fail
              exact ⟨⟨j + 1, by have := HJ.out; omega, by go_num, HU.out (by omega), by trivial⟩, by simp [intOf]; have := HJ.out; omega⟩
          · have HRK : Hid (rowsB (numsY rs) (k + 1)) := Lib.hid (fun x hx => by
              rcases Nat.lt_or_ge x k with h1 | h1
              · exact HRO.out x h1
              · have : x = k := by omega
                subst this
                rw [HNA.out]
                exact upB_all HZL.out (by rw [HZL.out]; exact (show j = 33 by omega) ▸ hup))
            have j1 : ¬ (j : Int) < 33 := by omega
            clear hj hup hlt
            go_wp2_with fail
            exact ⟨⟨k + 1, by have := HLT.out; omega, by go_num, HRK.out, by trivial⟩, by simp [intOf]; have := HLT.out; omega⟩
      · have hn' : ¬ (n : Int) = 33 := by omega
        have HE := Lib.hid (rfE_no (rowsB_not HNL.out (by rw [HNA.out]; exact rowB_len (show z.length ≠ 33 by have e : z.length = n := HIK.out.e; omega))))
        go_wp2_with fail
        refine bodyPost_ret (by simp [results, Tryd.results37, go_sem, ]; try rfl) rfl ?_
        exact ⟨by rw [HE.out], HB.out⟩
    · have HE := Lib.hid (rfE_yes (rowsB_all (l := numsY rs) (by rw [nums_len, HLN.out]; exact HM.out.1) (by rw [nums_len, HLN.out]; exact HM.out.2) (by rw [nums_len, HLN.out]; exact (show k = m by omega) ▸ hro)))
      have k1 : ¬ (k : Int) < m := by omega
      clear hk hro hlt
      go_wp2_with fail
      refine bodyPost_ret (by simp [results, Tryd.results37, go_sem, ]; try rfl) rfl ?_
      exact ⟨by rw [HE.out], HB.out⟩
end Go.Proofs.YtdmnaipngcldbaaDoor.rfW
