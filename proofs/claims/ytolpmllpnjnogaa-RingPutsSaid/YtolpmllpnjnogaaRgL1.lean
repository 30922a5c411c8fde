/- The laws' back of rings, by a walk. -/
import Derived.Test.YtolpmllpnjnogaaRgW16
namespace Go.Proofs.Ytolpmllpnjnogaa.rgL
open Go.RowKit Go.Proofs.Ytolpmllpnjnogaa.base Go.Proofs.Ytolpmllpnjnogaa.rgP Go.Proofs.Ytolpmllpnjnogaa.rgW
set_option linter.unusedVariables false
set_option linter.unusedSimpArgs false

set_option maxHeartbeats 1000000 in
theorem back_any (r : Rg) (A : Option Addr) (n c : Nat) (k x : Int) (w : World) (h : RgIn w A n c r) (k1 : -9223372036854775808 ≤ k) (k2 : k ≤ 9223372036854775807) :
    Calls Try.prog 15 #[.agg #[.int .i64 (r).l, .slice A n c, .int .i64 (r).n], .int .i64 k, .int .u8 x] w fun e w' => e = .returned (.bool (decide (backE r k = 0) && decide (backV r k = x))) ∧ Below w.heap.size w w' := by
  have H := Lib.hid h
  clear h
  obtain ⟨e, he⟩ : ∃ e, backE r k = e := ⟨_, rfl⟩
  obtain ⟨v, hv⟩ : ∃ v, backV r k = v := ⟨_, rfl⟩
  have HE := Lib.hid (And.intro he hv)
  rw [he, hv]
  clear he hv
  by_cases h1 : e = 0
  · subst h1
    go_enter Try.func15, Try.ntmps15
    go_wp2_with (refine (Back_any r A n c k _ (H.out.below (by (repeat' (first | (with_reducible exact Below.refl _ _) | (with_reducible assumption) | (with_reducible refine below_drewN ?_ _) | (with_reducible refine below_new ?_ _) | (with_reducible refine Below.alloc ?_ ?_ _) | (with_reducible refine Below.drew ?_) | (with_reducible refine Below.setCell ?_ ?_ _) | (with_reducible apply below_at; (case k => (with_reducible assumption)); (case hB => omega)) | (with_reducible apply below_on; (with_reducible assumption)) | (go_size; done) | (with_reducible apply size_of))))) k1 k2).mono ?_; rintro e w1 ⟨rfl, hb1⟩; rw [HE.out.1, HE.out.2])
    go_ret
    exact ⟨retb (by by_cases hx : v = x <;> simp [hx]), by (repeat' (first | (with_reducible exact Below.refl _ _) | (with_reducible assumption) | (with_reducible refine below_drewN ?_ _) | (with_reducible refine below_new ?_ _) | (with_reducible refine Below.alloc ?_ ?_ _) | (with_reducible refine Below.drew ?_) | (with_reducible refine Below.setCell ?_ ?_ _) | (with_reducible apply below_at; (case k => (with_reducible assumption)); (case hB => omega)) | (with_reducible apply below_on; (with_reducible assumption)) | (go_size; done) | (with_reducible apply size_of)))⟩
  · have h2 : (e == 0) = false := by simpa using h1
    go_enter Try.func15, Try.ntmps15
    go_wp2_with (refine (Back_any r A n c k _ (H.out.below (by (repeat' (first | (with_reducible exact Below.refl _ _) | (with_reducible assumption) | (with_reducible refine below_drewN ?_ _) | (with_reducible refine below_new ?_ _) | (with_reducible refine Below.alloc ?_ ?_ _) | (with_reducible refine Below.drew ?_) | (with_reducible refine Below.setCell ?_ ?_ _) | (with_reducible apply below_at; (case k => (with_reducible assumption)); (case hB => omega)) | (with_reducible apply below_on; (with_reducible assumption)) | (go_size; done) | (with_reducible apply size_of))))) k1 k2).mono ?_; rintro e w1 ⟨rfl, hb1⟩; rw [HE.out.1, HE.out.2])
    go_ret
    exact ⟨retb (by simp [h1]), by (repeat' (first | (with_reducible exact Below.refl _ _) | (with_reducible assumption) | (with_reducible refine below_drewN ?_ _) | (with_reducible refine below_new ?_ _) | (with_reducible refine Below.alloc ?_ ?_ _) | (with_reducible refine Below.drew ?_) | (with_reducible refine Below.setCell ?_ ?_ _) | (with_reducible apply below_at; (case k => (with_reducible assumption)); (case hB => omega)) | (with_reducible apply below_on; (with_reducible assumption)) | (go_size; done) | (with_reducible apply size_of)))⟩
end Go.Proofs.Ytolpmllpnjnogaa.rgL
