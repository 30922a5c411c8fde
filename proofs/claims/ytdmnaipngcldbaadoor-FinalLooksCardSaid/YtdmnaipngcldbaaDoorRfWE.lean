/- Refiners copied and compared, and a place moved, by walks. -/
import Derived.Test.YtdmnaipngcldbaaDoorRfWD
namespace Go.Proofs.YtdmnaipngcldbaaDoor.rfW
set_option maxRecDepth 100000
open Go.RowKit Go.Proofs.YtdmnaipngcldbaaDoor.base Go.Proofs.YtdmnaipngcldbaaDoor.rfP
set_option linter.unusedVariables false
set_option linter.unusedSimpArgs false
set_option maxHeartbeats 400000 in
theorem twin17_any (P : Option Addr) (m c : Nat) (rs : List RY) (w : World) (h : RowsY w P m c rs) (hg : greatB (numsY rs) = false) :
    Calls Tryd.prog 39 #[.agg #[.slice P m c]] w fun e w' => ∃ A d qs, e = .returned (.agg #[.slice A m d]) ∧ OwnR w' w.heap.size (.slice A m d) qs ∧ numsY qs = numsY rs ∧ Below w.heap.size w w' := by
  have H := Lib.hid (And.intro h hg)
  clear h hg
  go_enter Tryd.func39, Tryd.ntmps39
  go_wp2_with fail
  have B0 : Hid (Below w.heap.size w ((w.alloc (.cells #[.slice P m c] 24)).alloc (.cells #[.slice none 0 0] 24)) ∧ Lies ((w.alloc (.cells #[.slice P m c] 24)).alloc (.cells #[.slice none 0 0] 24)) (w.heap.size + 1) 24 [.slice none 0 0]) := Lib.hid ⟨by (repeat' (first | (with_reducible exact Below.refl _ _) | (with_reducible assumption) | (with_reducible refine below_drewN ?_ _) | (with_reducible refine below_new ?_ _) | (with_reducible refine Below.alloc ?_ ?_ _) | (with_reducible refine Below.drew ?_) | (with_reducible refine Below.setCell ?_ ?_ _) | (with_reducible apply below_at; (case k => (with_reducible assumption)); (case hB => omega)) | (with_reducible apply below_on; (with_reducible assumption)) | (go_size; done) | (with_reducible apply size_of))), Lies.fresh_at (cs := [.slice none 0 0]) (by simp)⟩
  generalize ((w.alloc (.cells #[.slice P m c] 24)).alloc (.cells #[.slice none 0 0] 24)) = W0 at *
  generalize hg2 : w.heap.size + 1 = g2 at *
  have HG2 := Lib.hid hg2
  clear hg2
  refine (twin16_any P m c rs W0 (H.out.1.below B0.out.1 (Nat.le_refl _)) H.out.2).mono ?_
  rintro e w1 ⟨A, d, qs, rfl, ho, hq, hb⟩
  have K1 := B0.out.2.past hb
  obtain ⟨z1, z2⟩ := K1.one
  have H1 := Lib.hid (And.intro K1 (And.intro ho (And.intro hq hb)))
  clear K1 ho hq hb
  have hfd : ∀ w : World, (Instr.field 96 (.agg #[.slice A m d]) 0).run Tryd.prog w = .ok (.slice A m d) w := fun _ => by kernel_rfl
  go_wp2_with fail
  have K := H1.out.1.set 0 (.slice A m d)
  have k1 : (w1.setCell ⟨g2, 0, none⟩ (.slice A m d)).cell? ⟨g2, 0, none⟩ = some (.slice A m d) := K.cell 0
  refine bodyPost_ret (by simp [results, Tryd.results39, go_sem, k1]; try rfl) rfl ?_
  exact ⟨A, d, qs, rfl, (H1.out.2.1.mono B0.out.1.size).other H1.out.1 (by decide) (by decide) 0 _, H1.out.2.2.1, (B0.out.1.trans (H1.out.2.2.2.mono B0.out.1.size)).setCell (by have := HG2.out; show w.heap.size ≤ g2; omega) _⟩
set_option maxHeartbeats 400000 in
theorem same17_any (P Q : Option Addr) (m c n d : Nat) (rs qs : List RY) (w : World) (h : RowsY w P m c rs) (h' : RowsY w Q n d qs) :
    Calls Tryd.prog 34 #[.agg #[.slice P m c], .agg #[.slice Q n d]] w fun e w' => e = .returned (.bool (decide (numsY rs = numsY qs))) ∧ Below w.heap.size w w' := by
  have H := Lib.hid (And.intro h h')
  obtain ⟨v, hv⟩ : ∃ v, decide (numsY rs = numsY qs) = v := ⟨_, rfl⟩
  have HV := Lib.hid hv
  rw [hv]
  clear h h' hv
  go_enter Tryd.func34, Tryd.ntmps34
  go_wp2_with fail
  refine (same16_any P Q m c n d rs qs _ (H.out.1.below (B := w.heap.size) (by (repeat' (first | (with_reducible exact Below.refl _ _) | (with_reducible assumption) | (with_reducible refine below_drewN ?_ _) | (with_reducible refine below_new ?_ _) | (with_reducible refine Below.alloc ?_ ?_ _) | (with_reducible refine Below.drew ?_) | (with_reducible refine Below.setCell ?_ ?_ _) | (with_reducible apply below_at; (case k => (with_reducible assumption)); (case hB => omega)) | (with_reducible apply below_on; (with_reducible assumption)) | (go_size; done) | (with_reducible apply size_of)))) (Nat.le_refl _)) (H.out.2.below (B := w.heap.size) (by (repeat' (first | (with_reducible exact Below.refl _ _) | (with_reducible assumption) | (with_reducible refine below_drewN ?_ _) | (with_reducible refine below_new ?_ _) | (with_reducible refine Below.alloc ?_ ?_ _) | (with_reducible refine Below.drew ?_) | (with_reducible refine Below.setCell ?_ ?_ _) | (with_reducible apply below_at; (case k => (with_reducible assumption)); (case hB => omega)) | (with_reducible apply below_on; (with_reducible assumption)) | (go_size; done) | (with_reducible apply size_of)))) (Nat.le_refl _))).mono ?_
  rintro e w1 ⟨rfl, hb⟩
  rw [HV.out]
  have HB : Hid (Below w.heap.size w w1) := Lib.hid (by (repeat' (first | (with_reducible exact Below.refl _ _) | (with_reducible assumption) | (with_reducible refine below_drewN ?_ _) | (with_reducible refine below_new ?_ _) | (with_reducible refine Below.alloc ?_ ?_ _) | (with_reducible refine Below.drew ?_) | (with_reducible refine Below.setCell ?_ ?_ _) | (with_reducible apply below_at; (case k => (with_reducible assumption)); (case hB => omega)) | (with_reducible apply below_on; (with_reducible assumption)) | (go_size; done) | (with_reducible apply size_of))))
  clear hb
  go_wp2_with fail
  refine bodyPost_ret (by simp [results, Tryd.results34, go_sem, ]; try rfl) rfl ?_
  exact ⟨rfl, HB.out⟩
end Go.Proofs.YtdmnaipngcldbaaDoor.rfW
