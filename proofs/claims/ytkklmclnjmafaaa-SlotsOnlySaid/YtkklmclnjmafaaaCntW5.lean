/- What the functions of package counts and of its reference return, by walks: the second part. -/
import Derived.Test.YtkklmclnjmafaaaCntW3
import Derived.Test.YtkklmclnjmafaaaCntW4
import Derived.Test.YtkklmclnjmafaaaBlock
namespace Go.Proofs.Ytkklmclnjmafaaa.cntW
set_option maxRecDepth 100000
open Go.RowKit Go.Proofs.Ytkklmclnjmafaaa.base Go.Proofs.Ytkklmclnjmafaaa.cntP
set_option linter.unusedVariables false
set_option linter.unusedSimpArgs false
set_option maxHeartbeats 400000 in
theorem Next_any (a b l bit : Int) (w : World) (hc : CntIn ⟨a, b, l⟩) (hb1 : 0 ≤ bit) (hb2 : bit ≤ 255) :
    Calls Try.prog 47 #[.agg #[.int .i32 (a), .int .i32 (b), .int .u8 (l)], .int .u8 bit] w fun e w' => e = .returned (.tuple #[.agg #[.int .i32 (nxC ⟨a, b, l⟩ bit).a, .int .i32 (nxC ⟨a, b, l⟩ bit).b, .int .u8 (nxC ⟨a, b, l⟩ bit).l], .int .i64 (nxE ⟨a, b, l⟩ bit)]) ∧ Below w.heap.size w w' := by
  cases hok : ok ⟨a, b, l⟩
  · have E := chk_no hok
    have HK := Lib.hid hok
    clear hok
    go_enter Try.func47, Try.ntmps47
    go_wp2_with (first | (go_at_call 55; refine (check_any ⟨_, _, _⟩ _ hc).mono ?_; rintro e w1 ⟨rfl, hb⟩; obtain ⟨cl1, fr1⟩ := bcell hb; have sz1 := hb.size; (try simp at sz1); (try have sy1 : w.heap.size + 1 < (w1).heap.size := (by omega)); have sx1 : w.heap.size < (w1).heap.size := (by omega)))
    refine bodyPost_ret (by simp [results, Try.results47, go_sem, cl1, sy1]; try rfl) rfl ?_
    exact ⟨by simp [nxC, nxE, HK.out], by (repeat' (first | (with_reducible exact Below.refl _ _) | (with_reducible assumption) | (with_reducible refine below_drewN ?_ _) | (with_reducible refine below_new ?_ _) | (with_reducible refine Below.alloc ?_ ?_ _) | (with_reducible refine Below.drew ?_) | (with_reducible refine Below.setCell ?_ ?_ _) | (with_reducible apply below_at; (case k => (with_reducible assumption)); (case hB => omega)) | (with_reducible apply below_on; (with_reducible assumption)) | (go_size; done) | (with_reducible apply size_of)))⟩
  · have E := chk_yes hok
    have HK := Lib.hid hok
    have bd := ok_bd hok
    obtain ⟨x1, x2, x3, x4, x5, x6⟩ := bd
    simp only at x1 x2 x3 x4
    clear hok
    by_cases hbit : bit ≤ 1
    · have hb01 : bit = 0 ∨ bit = 1 := by omega
      have HB := Lib.hid hb01
      clear hb01
      go_enter Try.func47, Try.ntmps47
      go_wp2_with (first | (go_at_call 55; refine (check_any ⟨_, _, _⟩ _ hc).mono ?_; rintro e w1 ⟨rfl, hb⟩; obtain ⟨cl1, fr1⟩ := bcell hb; have sz1 := hb.size; (try simp at sz1); (try have sy1 : w.heap.size + 1 < (w1).heap.size := (by omega)); have sx1 : w.heap.size < (w1).heap.size := (by omega)) | (go_at_call 56; refine (next_any _ _ _ _ _ x1 x2 x3 x4 HB.out).mono ?_; rintro e w' ⟨rfl, hb3⟩; obtain ⟨cl2, fr2⟩ := bcell hb3; have sz2 := hb3.size; (try simp at sz2); (try have sy2 : w.heap.size + 1 < (w').heap.size := (by omega)); have sx2 : w.heap.size < (w').heap.size := (by omega)))
      refine bodyPost_ret (by simp [results, Try.results47, go_sem, cl1, sy1, cl2, sy2]; try rfl) rfl ?_
      exact ⟨by simp [nxC, nxE, HK.out, hbit], by (repeat' (first | (with_reducible exact Below.refl _ _) | (with_reducible assumption) | (with_reducible refine below_drewN ?_ _) | (with_reducible refine below_new ?_ _) | (with_reducible refine Below.alloc ?_ ?_ _) | (with_reducible refine Below.drew ?_) | (with_reducible refine Below.setCell ?_ ?_ _) | (with_reducible apply below_at; (case k => (with_reducible assumption)); (case hB => omega)) | (with_reducible apply below_on; (with_reducible assumption)) | (go_size; done) | (with_reducible apply size_of)))⟩
    · go_enter Try.func47, Try.ntmps47
      go_wp2_with (first | (go_at_call 55; refine (check_any ⟨_, _, _⟩ _ hc).mono ?_; rintro e w1 ⟨rfl, hb⟩; obtain ⟨cl1, fr1⟩ := bcell hb; have sz1 := hb.size; (try simp at sz1); (try have sy1 : w.heap.size + 1 < (w1).heap.size := (by omega)); have sx1 : w.heap.size < (w1).heap.size := (by omega)))
      refine bodyPost_ret (by simp [results, Try.results47, go_sem, cl1, sy1]; try rfl) rfl ?_
      exact ⟨by simp [nxC, nxE, HK.out, Int.not_le.mpr hbit], by (repeat' (first | (with_reducible exact Below.refl _ _) | (with_reducible assumption) | (with_reducible refine below_drewN ?_ _) | (with_reducible refine below_new ?_ _) | (with_reducible refine Below.alloc ?_ ?_ _) | (with_reducible refine Below.drew ?_) | (with_reducible refine Below.setCell ?_ ?_ _) | (with_reducible apply below_at; (case k => (with_reducible assumption)); (case hB => omega)) | (with_reducible apply below_on; (with_reducible assumption)) | (go_size; done) | (with_reducible apply size_of)))⟩
set_option maxHeartbeats 400000 in
theorem Total_any (a b l : Int) (w : World) (hc : CntIn ⟨a, b, l⟩) :
    Calls Try.prog 45 #[.agg #[.int .i32 (a), .int .i32 (b), .int .u8 (l)]] w fun e w' => e = .returned (.tuple #[.int .i32 (totV ⟨a, b, l⟩), .int .i64 (chk ⟨a, b, l⟩)]) ∧ Below w.heap.size w w' := by
  cases hok : ok ⟨a, b, l⟩
  · have E := chk_no hok
    have HK := Lib.hid hok
    clear hok
    go_enter Try.func45, Try.ntmps45
    go_wp2_with (first | (go_at_call 55; refine (check_any ⟨_, _, _⟩ _ hc).mono ?_; rintro e w1 ⟨rfl, hb⟩; obtain ⟨cl1, fr1⟩ := bcell hb; have sz1 := hb.size; (try simp at sz1); (try have sy1 : w.heap.size + 1 < (w1).heap.size := (by omega)); have sx1 : w.heap.size < (w1).heap.size := (by omega)))
    go_ret2
    exact ⟨by simp [totV, HK.out, E], by (repeat' (first | (with_reducible exact Below.refl _ _) | (with_reducible assumption) | (with_reducible refine below_drewN ?_ _) | (with_reducible refine below_new ?_ _) | (with_reducible refine Below.alloc ?_ ?_ _) | (with_reducible refine Below.drew ?_) | (with_reducible refine Below.setCell ?_ ?_ _) | (with_reducible apply below_at; (case k => (with_reducible assumption)); (case hB => omega)) | (with_reducible apply below_on; (with_reducible assumption)) | (go_size; done) | (with_reducible apply size_of)))⟩
  · have E := chk_yes hok
    have HK := Lib.hid hok
    have bd := ok_bd hok
    obtain ⟨x1, x2, x3, x4, x5, x6⟩ := bd
    simp only at x1 x2 x3 x4
    clear hok
    go_enter Try.func45, Try.ntmps45
    go_wp2_with (first | (go_at_call 55; refine (check_any ⟨_, _, _⟩ _ hc).mono ?_; rintro e w1 ⟨rfl, hb⟩; obtain ⟨cl1, fr1⟩ := bcell hb; have sz1 := hb.size; (try simp at sz1); (try have sy1 : w.heap.size + 1 < (w1).heap.size := (by omega)); have sx1 : w.heap.size < (w1).heap.size := (by omega)))
    go_ret2
    exact ⟨by simp [totV, HK.out, E], by (repeat' (first | (with_reducible exact Below.refl _ _) | (with_reducible assumption) | (with_reducible refine below_drewN ?_ _) | (with_reducible refine below_new ?_ _) | (with_reducible refine Below.alloc ?_ ?_ _) | (with_reducible refine Below.drew ?_) | (with_reducible refine Below.setCell ?_ ?_ _) | (with_reducible apply below_at; (case k => (with_reducible assumption)); (case hB => omega)) | (with_reducible apply below_on; (with_reducible assumption)) | (go_size; done) | (with_reducible apply size_of)))⟩
end Go.Proofs.Ytkklmclnjmafaaa.cntW
