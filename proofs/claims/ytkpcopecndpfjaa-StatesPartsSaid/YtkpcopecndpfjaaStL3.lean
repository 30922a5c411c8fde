/- StatesRuns, by a walk. -/
import Derived.Test.YtkpcopecndpfjaaStL
import Derived.Test.YtkpcopecndpfjaaMem8
namespace Go.Proofs.Ytkpcopecndpfjaa.stL
open Go.RowKit Go.Proofs.Ytkpcopecndpfjaa.base Go.Proofs.Ytkpcopecndpfjaa.cntP Go.Proofs.Ytkpcopecndpfjaa.stP Go.Proofs.Ytkpcopecndpfjaa.cntW Go.Proofs.Ytkpcopecndpfjaa.stW
set_option linter.unusedVariables false
set_option linter.unusedSimpArgs false
theorem wf8 {zs : List Int} (h : ∀ n ∈ zs, (Lit.int .u8 n).wf = true) : ∀ z ∈ zs, 0 ≤ z ∧ z ≤ 255 := fun z hz => bounds_u8 (h z hz)
set_option maxHeartbeats 1000000 in
theorem runs_main (s : Int) (A : Option Addr) (cap : Nat) (zs : List Int) (w : World) (h1 : 0 ≤ s) (h2 : s ≤ 255) (hr : Has .u8 w A zs) (hz : ∀ z ∈ zs, 0 ≤ z ∧ z ≤ 255) (hl : zs.length ≤ 500 ∨ 500 < zs.length ∧ 20000 < zs.length ∧ zs.length ≤ 20100) :
    Calls Try.prog 12 #[.int .u8 s, .slice A zs.length cap] w fun e w' => e = .returned (.bool true) ∧ Below w.heap.size w w' := by
  have HC := Lib.hid hr
  have HZ := Lib.hid hz
  clear hr hz
  rcases hl with hl | ⟨hl0, hl1, hl2⟩
  all_goals
    have hl' : zs.length ≤ 20100 := by omega
    go_enter Try.func12, Try.ntmps12
    go_wp2_with (first | (at_builtin; refine clone8 rfl _ _ rfl _ rfl A _ _ zs rfl rfl (HC.out.below ((Below.refl _ _).alloc (Nat.le_refl _) _) (Nat.le_refl _)) (by omega) ?_; intro A1 c1 w1 hh1 hb1 ho1; have W1 : Below w.heap.size w w1 := (by (repeat' (first | (with_reducible exact Below.refl _ _) | (with_reducible assumption) | (with_reducible refine below_drewN ?_ _) | (with_reducible refine below_new ?_ _) | (with_reducible refine Below.alloc ?_ ?_ _) | (with_reducible refine Below.drew ?_) | (with_reducible refine Below.setCell ?_ ?_ _) | (with_reducible apply below_on; (with_reducible assumption)) | (go_size; done) | (with_reducible apply size_of)))); have HH1 := Lib.hid hh1; clear hh1 ho1))
    refine (RunS_any s A zs.length cap zs _ h1 h2 HZ.out (HC.out.below W1 (Nat.le_refl _)) rfl (by omega)).mono ?_
    rintro e w2 ⟨rfl, hb2⟩
    have W2 : Below w.heap.size w w2 := W1.trans (hb2.mono W1.size)
    have HH2 := Lib.hid (HH1.out.below hb2 (Nat.le_refl _))
    go_wp2_with fail
    refine (rRunS_any s _ zs.length _ zs _ h1 h2 HZ.out HH2.out rfl (by omega)).mono ?_
    rintro e w3 ⟨rfl, hb3⟩
    have W3 : Below w.heap.size w w3 := W2.trans (hb3.mono W2.size)
    have cv1 := conv8 (n := zs.length) (c := cap) (HC.out.below W3 (Nat.le_refl _)) rfl
    have cv2 := conv8 (n := zs.length) (c := c1) (HH2.out.below hb3 (Nat.le_refl _)) rfl
    go_wp2
    go_ret
    exact ⟨rfl, W3⟩
set_option maxHeartbeats 400000 in
theorem runs_out (s : Int) (A : Option Addr) (len cap : Nat) (w : World) (hl : 500 < len ∧ len ≤ 20000 ∨ 500 < len ∧ 20000 < len ∧ 20100 < len) :
    Calls Try.prog 12 #[.int .u8 s, .slice A len cap] w fun e w' => e = .returned (.bool true) ∧ Below w.heap.size w w' := by
  rcases hl with ⟨h3, h4⟩ | ⟨h3, h4, h5⟩
  · go_enter Try.func12, Try.ntmps12
    go_wp2
    go_ret
    exact ⟨rfl, by (repeat' (first | (with_reducible exact Below.refl _ _) | (with_reducible assumption) | (with_reducible refine below_drewN ?_ _) | (with_reducible refine below_new ?_ _) | (with_reducible refine Below.alloc ?_ ?_ _) | (with_reducible refine Below.drew ?_) | (with_reducible refine Below.setCell ?_ ?_ _) | (with_reducible apply below_on; (with_reducible assumption)) | (go_size; done) | (with_reducible apply size_of)))⟩
  · go_enter Try.func12, Try.ntmps12
    go_wp2
    go_ret
    exact ⟨rfl, by (repeat' (first | (with_reducible exact Below.refl _ _) | (with_reducible assumption) | (with_reducible refine below_drewN ?_ _) | (with_reducible refine below_new ?_ _) | (with_reducible refine Below.alloc ?_ ?_ _) | (with_reducible refine Below.drew ?_) | (with_reducible refine Below.setCell ?_ ?_ _) | (with_reducible apply below_on; (with_reducible assumption)) | (go_size; done) | (with_reducible apply size_of)))⟩
theorem runs (s : Int) (A : Option Addr) (len cap : Nat) (z : List Int) (w : World) (h1 : 0 ≤ s) (h2 : s ≤ 255) (hr : IsRow .u8 w A len cap z) :
    Calls Try.prog 12 #[.int .u8 s, .slice A len cap] w fun e w' => e = .returned (.bool true) ∧ Below w.heap.size w w' := by
  obtain ⟨hh, hlen, _, hw⟩ := has_of_row hr
  have hz := wf8 hw
  generalize hzs : z.take len = zs at *
  subst hlen
  by_cases c2 : zs.length ≤ 500
  · exact runs_main s A cap zs w h1 h2 hh hz (.inl c2)
  · by_cases c3 : zs.length ≤ 20000
    · exact runs_out s A _ cap w (.inl ⟨by omega, c3⟩)
    · by_cases c4 : zs.length ≤ 20100
      · exact runs_main s A cap zs w h1 h2 hh hz (.inr ⟨by omega, by omega, c4⟩)
      · exact runs_out s A _ cap w (.inr ⟨by omega, by omega, by omega⟩)
end Go.Proofs.Ytkpcopecndpfjaa.stL
