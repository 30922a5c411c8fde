/- What the functions of package counts and of its reference return, by walks: the second part. -/
import Derived.Test.YtipbafcjmeibpaaCntW3
import Derived.Test.YtipbafcjmeibpaaCntW4
import Derived.Test.YtipbafcjmeibpaaBlock
namespace Go.Proofs.Ytipbafcjmeibpaa.cntW
open Go.RowKit Go.Proofs.Ytipbafcjmeibpaa.base Go.Proofs.Ytipbafcjmeibpaa.cntP
set_option linter.unusedVariables false
set_option linter.unusedSimpArgs false
set_option maxHeartbeats 400000 in
theorem Next_any (a b l bit : Int) (w : World) (hc : CntIn ⟨a, b, l⟩) (hb1 : 0 ≤ bit) (hb2 : bit ≤ 255) :
    Calls Try.prog 43 #[.agg #[.int .i32 (a), .int .i32 (b), .int .u8 (l)], .int .u8 bit] w fun e w' => e = .returned (.tuple #[.agg #[.int .i32 (nxC ⟨a, b, l⟩ bit).a, .int .i32 (nxC ⟨a, b, l⟩ bit).b, .int .u8 (nxC ⟨a, b, l⟩ bit).l], .int .i64 (nxE ⟨a, b, l⟩ bit)]) ∧ Below w.heap.size w w' := by
  cases hok : ok ⟨a, b, l⟩
  · have E := chk_no hok
    have HK := Lib.hid hok
    clear hok
    go_enter Try.func43, Try.ntmps43
    go_wp2_with (first | (go_at_call 50; refine (check_any ⟨_, _, _⟩ _ hc).mono ?_; rintro e w1 ⟨rfl, hb⟩; obtain ⟨cl1, fr1⟩ := bcell hb; have sz1 := hb.size; (try simp at sz1); (try have sy1 : w.heap.size + 1 < (w1).heap.size := (by omega)); have sx1 : w.heap.size < (w1).heap.size := (by omega)))
    refine bodyPost_ret (by simp [results, Try.results43, go_sem, cl1, sy1]; try rfl) rfl ?_
    exact ⟨by simp [nxC, nxE, HK.out], by (repeat' (first | (with_reducible exact Below.refl _ _) | (with_reducible assumption) | (with_reducible refine below_drewN ?_ _) | (with_reducible refine below_new ?_ _) | (with_reducible refine Below.alloc ?_ ?_ _) | (with_reducible refine Below.drew ?_) | (with_reducible refine Below.setCell ?_ ?_ _) | (with_reducible apply below_at; (case k => (with_reducible assumption)); (case hB => omega)) | (with_reducible apply below_on; (with_reducible assumption)) | (go_size; done) | (with_reducible apply size_of)))⟩
  · have E := chk_yes hok
    have HK := Lib.hid hok
    have bd := ok_bd hok
    obtain ⟨x1, x2, x3, x4, x5, x6⟩ := bd
    simp only at x1 x2 x3 x4
    clear hok
    by_cases hbit : bit ≤ 1
    · have hb01 : bit = 0 ∨ bit = 1 := by omega
      have HB := Lib.hid hb01
      clear hb01
      go_enter Try.func43, Try.ntmps43
      go_wp2_with (first | (go_at_call 50; refine (check_any ⟨_, _, _⟩ _ hc).mono ?_; rintro e w1 ⟨rfl, hb⟩; obtain ⟨cl1, fr1⟩ := bcell hb; have sz1 := hb.size; (try simp at sz1); (try have sy1 : w.heap.size + 1 < (w1).heap.size := (by omega)); have sx1 : w.heap.size < (w1).heap.size := (by omega)) | (go_at_call 51; refine (next_any _ _ _ _ _ x1 x2 x3 x4 HB.out).mono ?_; rintro e w' ⟨rfl, hb3⟩; obtain ⟨cl2, fr2⟩ := bcell hb3; have sz2 := hb3.size; (try simp at sz2); (try have sy2 : w.heap.size + 1 < (w').heap.size := (by omega)); have sx2 : w.heap.size < (w').heap.size := (by omega)))
      refine bodyPost_ret (by simp [results, Try.results43, go_sem, cl1, sy1, cl2, sy2]; try rfl) rfl ?_
      exact ⟨by simp [nxC, nxE, HK.out, hbit], by (repeat' (first | (with_reducible exact Below.refl _ _) | (with_reducible assumption) | (with_reducible refine below_drewN ?_ _) | (with_reducible refine below_new ?_ _) | (with_reducible refine Below.alloc ?_ ?_ _) | (with_reducible refine Below.drew ?_) | (with_reducible refine Below.setCell ?_ ?_ _) | (with_reducible apply below_at; (case k => (with_reducible assumption)); (case hB => omega)) | (with_reducible apply below_on; (with_reducible assumption)) | (go_size; done) | (with_reducible apply size_of)))⟩
    · go_enter Try.func43, Try.ntmps43
      go_wp2_with (first | (go_at_call 50; refine (check_any ⟨_, _, _⟩ _ hc).mono ?_; rintro e w1 ⟨rfl, hb⟩; obtain ⟨cl1, fr1⟩ := bcell hb; have sz1 := hb.size; (try simp at sz1); (try have sy1 : w.heap.size + 1 < (w1).heap.size := (by omega)); have sx1 : w.heap.size < (w1).heap.size := (by omega)))
      refine bodyPost_ret (by simp [results, Try.results43, go_sem, cl1, sy1]; try rfl) rfl ?_
      exact ⟨by simp [nxC, nxE, HK.out, Int.not_le.mpr hbit], by (repeat' (first | (with_reducible exact Below.refl _ _) | (with_reducible assumption) | (with_reducible refine below_drewN ?_ _) | (with_reducible refine below_new ?_ _) | (with_reducible refine Below.alloc ?_ ?_ _) | (with_reducible refine Below.drew ?_) | (with_reducible refine Below.setCell ?_ ?_ _) | (with_reducible apply below_at; (case k => (with_reducible assumption)); (case hB => omega)) | (with_reducible apply below_on; (with_reducible assumption)) | (go_size; done) | (with_reducible apply size_of)))⟩
end Go.Proofs.Ytipbafcjmeibpaa.cntW
