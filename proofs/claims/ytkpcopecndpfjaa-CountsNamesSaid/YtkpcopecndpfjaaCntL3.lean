/- CountsRuns, by a walk. -/
import Derived.Test.YtkpcopecndpfjaaCntL
namespace Go.Proofs.Ytkpcopecndpfjaa.cntL
open Go.RowKit Go.Proofs.Ytkpcopecndpfjaa.base Go.Proofs.Ytkpcopecndpfjaa.cntP Go.Proofs.Ytkpcopecndpfjaa.cntW
set_option linter.unusedVariables false
set_option linter.unusedSimpArgs false
theorem wf8 {zs : List Int} (h : ∀ n ∈ zs, (Lit.int .u8 n).wf = true) : ∀ z ∈ zs, 0 ≤ z ∧ z ≤ 255 := fun z hz => bounds_u8 (h z hz)
set_option maxHeartbeats 1000000 in
theorem runs_main (c : Cnt) (A : Option Addr) (cap : Nat) (zs : List Int) (w : World) (hc : CntIn c) (hr : Has .u8 w A zs) (hz : ∀ z ∈ zs, 0 ≤ z ∧ z ≤ 255) (hl : zs.length ≤ 500 ∨ 500 < zs.length ∧ 20000 < zs.length ∧ zs.length ≤ 20100) :
    Calls Try.prog 5 #[.agg #[.int .i32 (c).a, .int .i32 (c).b, .int .u8 (c).l], .slice A zs.length cap] w fun e w' => e = .returned (.bool true) ∧ Below w.heap.size w w' := by
  have HC := Lib.hid hr
  have HZ := Lib.hid hz
  clear hr hz
  rcases hl with hl | ⟨hl0, hl1, hl2⟩
  all_goals
    have hl' : zs.length ≤ 20100 := by omega
    go_enter Try.func5, Try.ntmps5
    go_wp2_with (first | (at_builtin; refine clone8 rfl _ _ rfl _ rfl A _ _ zs rfl rfl (HC.out.below (((Below.refl _ _).alloc (Nat.le_refl _) _).alloc (by simp) _) (Nat.le_refl _)) (by omega) ?_; intro A1 c1 w1 hh1 hb1 ho1; have W1 : Below w.heap.size w w1 := (by (repeat' (first | (with_reducible exact Below.refl _ _) | (with_reducible assumption) | (with_reducible refine below_drewN ?_ _) | (with_reducible refine below_new ?_ _) | (with_reducible refine Below.alloc ?_ ?_ _) | (with_reducible refine Below.drew ?_) | (with_reducible refine Below.setCell ?_ ?_ _) | (with_reducible apply below_on; (with_reducible assumption)) | (go_size; done) | (with_reducible apply size_of)))); have K1 : Lies w1 w.heap.size 23 [.int .i32 (c).a, .int .i32 (c).b, .int .u8 (c).l] := Lies.past (by (repeat' (first | (with_reducible assumption) | (with_reducible exact Lies.fresh _ _ _) | (with_reducible refine Lies.drew ?_) | (with_reducible refine Lies.drewN ?_ _) | (with_reducible refine Lies.alloc ?_ _)))) hb1; obtain ⟨a0, a1, a2, f0, f1, f2⟩ := K1.three; have la := K1.lt; have HK1 := Lib.hid K1; have HH1 := Lib.hid hh1; clear K1 hh1 ho1))
    refine (Run_any c A zs.length cap zs _ hc HZ.out (HC.out.below W1 (Nat.le_refl _)) rfl (by omega)).mono ?_
    rintro e w2 ⟨rfl, hb2⟩
    have W2 : Below w.heap.size w w2 := W1.trans (hb2.mono W1.size)
    have K2 : Lies w2 w.heap.size 23 [.int .i32 (c).a, .int .i32 (c).b, .int .u8 (c).l] := HK1.out.past hb2
    obtain ⟨a0, a1, a2, f0, f1, f2⟩ := K2.three
    have la := K2.lt
    have HK2 := Lib.hid K2
    have HH2 := Lib.hid (HH1.out.below hb2 (Nat.le_refl _))
    clear K2
    go_wp2_with fail
    refine (rRun_any c _ zs.length _ zs _ hc HZ.out (HH2.out.below ((Below.refl _ _).alloc (Nat.le_refl _) _) (Nat.le_refl _)) rfl (by omega)).mono ?_
    rintro e w3 ⟨rfl, hb3⟩
    have W3 : Below w.heap.size w w3 := by (repeat' (first | (with_reducible exact Below.refl _ _) | (with_reducible assumption) | (with_reducible refine below_drewN ?_ _) | (with_reducible refine below_new ?_ _) | (with_reducible refine Below.alloc ?_ ?_ _) | (with_reducible refine Below.drew ?_) | (with_reducible refine Below.setCell ?_ ?_ _) | (with_reducible apply below_on; (with_reducible assumption)) | (go_size; done) | (with_reducible apply size_of)))
    have K3 := Lies.past (Lies.fresh w2 23 _) hb3
    obtain ⟨a0, a1, a2, f0, f1, f2⟩ := K3.three
    have la := K3.lt
    clear K3
    have cv1 := conv8 (n := zs.length) (c := cap) (HC.out.below (W3.alloc W3.size (.cells #[.int .i32 (runC c zs).a, .int .i32 (runC c zs).b, .int .u8 (runC c zs).l] 23)) (Nat.le_refl _)) rfl
    have cv2 := conv8 (n := zs.length) (c := c1) ((HH2.out.below ((Below.refl _ _).alloc (Nat.le_refl _) _) (Nat.le_refl _)).below (hb3.alloc hb3.size (.cells #[.int .i32 (runC c zs).a, .int .i32 (runC c zs).b, .int .u8 (runC c zs).l] 23)) (by simp)) rfl
    go_wp2
    go_ret
    exact ⟨rfl, by (repeat' (first | (with_reducible exact Below.refl _ _) | (with_reducible assumption) | (with_reducible refine below_drewN ?_ _) | (with_reducible refine below_new ?_ _) | (with_reducible refine Below.alloc ?_ ?_ _) | (with_reducible refine Below.drew ?_) | (with_reducible refine Below.setCell ?_ ?_ _) | (with_reducible apply below_on; (with_reducible assumption)) | (go_size; done) | (with_reducible apply size_of)))⟩
set_option maxHeartbeats 400000 in
theorem runs_out (c : Cnt) (A : Option Addr) (len cap : Nat) (w : World) (hl : 500 < len ∧ len ≤ 20000 ∨ 500 < len ∧ 20000 < len ∧ 20100 < len) :
    Calls Try.prog 5 #[.agg #[.int .i32 (c).a, .int .i32 (c).b, .int .u8 (c).l], .slice A len cap] w fun e w' => e = .returned (.bool true) ∧ Below w.heap.size w w' := by
  rcases hl with ⟨h3, h4⟩ | ⟨h3, h4, h5⟩
  · go_enter Try.func5, Try.ntmps5
    go_wp2
    go_ret
    exact ⟨rfl, by (repeat' (first | (with_reducible exact Below.refl _ _) | (with_reducible assumption) | (with_reducible refine below_drewN ?_ _) | (with_reducible refine below_new ?_ _) | (with_reducible refine Below.alloc ?_ ?_ _) | (with_reducible refine Below.drew ?_) | (with_reducible refine Below.setCell ?_ ?_ _) | (with_reducible apply below_on; (with_reducible assumption)) | (go_size; done) | (with_reducible apply size_of)))⟩
  · go_enter Try.func5, Try.ntmps5
    go_wp2
    go_ret
    exact ⟨rfl, by (repeat' (first | (with_reducible exact Below.refl _ _) | (with_reducible assumption) | (with_reducible refine below_drewN ?_ _) | (with_reducible refine below_new ?_ _) | (with_reducible refine Below.alloc ?_ ?_ _) | (with_reducible refine Below.drew ?_) | (with_reducible refine Below.setCell ?_ ?_ _) | (with_reducible apply below_on; (with_reducible assumption)) | (go_size; done) | (with_reducible apply size_of)))⟩
theorem runs (c : Cnt) (A : Option Addr) (len cap : Nat) (z : List Int) (w : World) (hc : CntIn c) (hr : IsRow .u8 w A len cap z) :
    Calls Try.prog 5 #[.agg #[.int .i32 (c).a, .int .i32 (c).b, .int .u8 (c).l], .slice A len cap] w fun e w' => e = .returned (.bool true) ∧ Below w.heap.size w w' := by
  obtain ⟨hh, hlen, _, hw⟩ := has_of_row hr
  have hz := wf8 hw
  generalize hzs : z.take len = zs at *
  subst hlen
  by_cases c2 : zs.length ≤ 500
  · exact runs_main c A cap zs w hc hh hz (.inl c2)
  · by_cases c3 : zs.length ≤ 20000
    · exact runs_out c A _ cap w (.inl ⟨by omega, c3⟩)
    · by_cases c4 : zs.length ≤ 20100
      · exact runs_main c A cap zs w hc hh hz (.inr ⟨by omega, by omega, c4⟩)
      · exact runs_out c A _ cap w (.inr ⟨by omega, by omega, by omega⟩)
end Go.Proofs.Ytkpcopecndpfjaa.cntL
