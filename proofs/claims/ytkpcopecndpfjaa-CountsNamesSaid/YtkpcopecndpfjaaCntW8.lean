/- Runs, by walks: the whole contracts. -/
import Derived.Test.YtkpcopecndpfjaaCntW5
import Derived.Test.YtkpcopecndpfjaaCntW6
import Derived.Test.YtkpcopecndpfjaaCntW7
namespace Go.Proofs.Ytkpcopecndpfjaa.cntW
open Go.RowKit Go.Proofs.Ytkpcopecndpfjaa.base Go.Proofs.Ytkpcopecndpfjaa.cntP
set_option linter.unusedVariables false
set_option linter.unusedSimpArgs false
set_option maxHeartbeats 1000000 in
theorem rRun_any (c0 : Cnt) (A : Option Addr) (len cap : Nat) (zs : List Int) (w : World) (hc : CntIn c0) (hz : ∀ z ∈ zs, 0 ≤ z ∧ z ≤ 255) (hr : Has .u8 w A zs) (hlen : zs.length = len) (hl : len ≤ 9223372036854775807) :
    Calls Try.prog 26 #[.agg #[.int .i32 (c0).a, .int .i32 (c0).b, .int .u8 (c0).l], .slice A len cap] w fun e w' => e = .returned (.tuple #[.agg #[.int .i32 (runC c0 zs).a, .int .i32 (runC c0 zs).b, .int .u8 (runC c0 zs).l], .int .i64 (runE c0 zs)]) ∧ Below w.heap.size w w' := by
  cases hok : ok c0
  · have E' : chk ⟨c0.a, c0.b, c0.l⟩ = 8 := chk_no hok
    have HK := Lib.hid hok
    clear hok hr hlen
    go_enter Try.func26, Try.ntmps26
    go_wp2_with (first | (go_at_call 25; refine (rcheck_any ⟨_, _, _⟩ _ hc).mono ?_; rintro e w1 ⟨rfl, hb⟩; obtain ⟨cl1, fr1⟩ := bcell hb; have sz1 := hb.size; (try simp at sz1); (try have sy1 : w.heap.size + 1 < (w1).heap.size := (by omega)); have sx1 : w.heap.size < (w1).heap.size := (by omega)))
    refine bodyPost_ret (by simp [results, Try.results26, go_sem, cl1, sy1]; try rfl) rfl ?_
    exact ⟨by simp [runC, runE, HK.out], by (repeat' (first | (with_reducible exact Below.refl _ _) | (with_reducible assumption) | (with_reducible refine below_drewN ?_ _) | (with_reducible refine below_new ?_ _) | (with_reducible refine Below.alloc ?_ ?_ _) | (with_reducible refine Below.drew ?_) | (with_reducible refine Below.setCell ?_ ?_ _) | (with_reducible apply below_on; (with_reducible assumption)) | (go_size; done) | (with_reducible apply size_of)))⟩
  · by_cases hm : 20000 < len
    · have E' : chk ⟨c0.a, c0.b, c0.l⟩ = 0 := chk_yes hok
      have HK := Lib.hid hok
      have HL : Hid (20000 < zs.length) := Lib.hid (by omega)
      clear hok hr hlen
      go_enter Try.func26, Try.ntmps26
      go_wp2_with (first | (go_at_call 25; refine (rcheck_any ⟨_, _, _⟩ _ hc).mono ?_; rintro e w1 ⟨rfl, hb⟩; obtain ⟨cl1, fr1⟩ := bcell hb; have sz1 := hb.size; (try simp at sz1); (try have sy1 : w.heap.size + 1 < (w1).heap.size := (by omega)); have sx1 : w.heap.size < (w1).heap.size := (by omega)))
      refine bodyPost_ret (by simp [results, Try.results26, go_sem, cl1, sy1]; try rfl) rfl ?_
      exact ⟨by simp [runC, runE, HK.out, HL.out], by (repeat' (first | (with_reducible exact Below.refl _ _) | (with_reducible assumption) | (with_reducible refine below_drewN ?_ _) | (with_reducible refine below_new ?_ _) | (with_reducible refine Below.alloc ?_ ?_ _) | (with_reducible refine Below.drew ?_) | (with_reducible refine Below.setCell ?_ ?_ _) | (with_reducible apply below_on; (with_reducible assumption)) | (go_size; done) | (with_reducible apply size_of)))⟩
    · subst hlen
      cases hb : bitsB zs
      · have E' : chk ⟨c0.a, c0.b, c0.l⟩ = 0 := chk_yes hok
        have HK := Lib.hid hok
        have HZ := Lib.hid hz
        have HH := Lib.hid hr
        have HM := Lib.hid hm
        clear hok hz hr
        go_enter Try.func26, Try.ntmps26
        go_wp2_with (first | (go_at_call 25; refine (rcheck_any ⟨_, _, _⟩ _ hc).mono ?_; rintro e w1 ⟨rfl, hb⟩; obtain ⟨cl1, fr1⟩ := bcell hb; have sz1 := hb.size; (try simp at sz1); (try have sy1 : w.heap.size + 1 < (w1).heap.size := (by omega)); have sx1 : w.heap.size < (w1).heap.size := (by omega)) | (go_at_call 27; refine (bits_any _ _ _ zs _ HZ.out ((HH.out.below (((Below.refl _ _).alloc (Nat.le_refl _) _).alloc (by simp) _) (Nat.le_refl _)).below hb (by simp)) rfl (by omega)).mono ?_; rintro e w' ⟨rfl, rfl⟩))
        refine bodyPost_ret (by simp [results, Try.results26, go_sem, cl1, sy1]; try rfl) rfl ?_
        exact ⟨by simp [runC, runE, HK.out, HM.out, *], by (repeat' (first | (with_reducible exact Below.refl _ _) | (with_reducible assumption) | (with_reducible refine below_drewN ?_ _) | (with_reducible refine below_new ?_ _) | (with_reducible refine Below.alloc ?_ ?_ _) | (with_reducible refine Below.drew ?_) | (with_reducible refine Below.setCell ?_ ?_ _) | (with_reducible apply below_on; (with_reducible assumption)) | (go_size; done) | (with_reducible apply size_of)))⟩
      · have e1 : runC c0 zs = run c0 zs := by simp [runC, hok, hm, hb]
        have e2 : runE c0 zs = 0 := by simp [runE, hok, hm, hb]
        rw [e1, e2]
        rcases hr with rfl | ⟨b, off, rfl, hB, hr⟩
        · exact rRun_nil c0 A cap w hc hok
        · exact rRun_some c0 b off cap zs w hc hok hz hB hr (by omega) hb
end Go.Proofs.Ytkpcopecndpfjaa.cntW
