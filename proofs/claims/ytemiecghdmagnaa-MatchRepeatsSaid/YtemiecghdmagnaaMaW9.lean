/- The reference's input and what comes after a byte, by walks. -/
import Derived.Test.YtemiecghdmagnaaMaW7
import Derived.Test.YtemiecghdmagnaaFdEM
namespace Go.Proofs.Ytemiecghdmagnaa.maW
set_option maxRecDepth 100000
open Go.RowKit Go.Proofs.Ytemiecghdmagnaa.base Go.Proofs.Ytemiecghdmagnaa.rgP Go.Proofs.Ytemiecghdmagnaa.fdP Go.Proofs.Ytemiecghdmagnaa.maP Go.Proofs.Ytemiecghdmagnaa.rgW Go.Proofs.Ytemiecghdmagnaa.rgL Go.Proofs.Ytemiecghdmagnaa.hashP Go.Proofs.Ytemiecghdmagnaa.hashW Go.Proofs.Ytemiecghdmagnaa.cxP Go.Proofs.Ytemiecghdmagnaa.fdW Go.Proofs.Ytemiecghdmagnaa.nibP Go.Proofs.Ytemiecghdmagnaa.nibW
set_option linter.unusedVariables false
set_option linter.unusedSimpArgs false
theorem ex_cases (m : Mt) (r : Rg) : exE m r = 0 ∨ (mtB m = false ∧ exE m r = 8) ∨ (mtB m = true ∧ rgOk r = false ∧ exE m r = 8) := by
  cases hm : mtB m
  · exact .inr (.inl ⟨rfl, by rw [exE, hm]; rfl⟩)
  cases hr : rgOk r
  · exact .inr (.inr ⟨rfl, rfl, by rw [exE, hm, rgE, hr]; rfl⟩)
  · exact .inl (exE_yes hm hr)
set_option maxHeartbeats 1000000 in
theorem rInput_any (m : Mt) (r : Rg) (A : Option Addr) (n c : Nat) (p : Int) (w : World) (h : RgIn w A n c r) :
    Calls Try.prog 15 #[.agg #[.int .i64 (m).a, .int .i64 (m).k], .agg #[.int .i64 (r).l, .slice A n c, .int .i64 (r).n], .agg #[.int .i64 p]] w fun e w' => e = .returned (.tuple #[.int .i32 (inV m r p), .int .i64 (inE m r p)]) ∧ Below w.heap.size w w' := by
  have T0 := Lib.hid (thr_start w m r A n c p h)
  clear h
  rcases ex_cases m r with he | ⟨hm, he⟩ | ⟨hm, hr, he⟩
  rotate_left
  · have HE : Hid (mtE m = 8 ∧ inE m r p = 8 ∧ inV m r p = 0) := Lib.hid (by
      have e : inE m r p = 8 := by rw [inE, if_neg (by omega)]
      exact ⟨mtE_no hm, e, in_no e⟩)
    clear he hm
    obtain ⟨m0, m1, -, -⟩ := T0.out.1.1.two; obtain ⟨x0, x1, x2, -, -, -⟩ := T0.out.1.2.1.three; have zl := T0.out.1.1.lt; have zl2 := T0.out.1.2.1.lt; obtain ⟨v0, -⟩ := T0.out.2.one; have zl3 := T0.out.2.lt
    go_enter Try.func15, Try.ntmps15
    go_wp2_with fail
    refine (rCheck_any m _).mono ?_
    rintro e w1 ⟨rfl, hb1⟩
    rw [HE.out.1]
    have T1 := Lib.hid (T0.out.past hb1)
    clear hb1
    clear m0 m1 x0 x1 x2 zl zl2 v0 zl3
    go_wp2_with fail
    go_ret2
    exact ⟨by rw [HE.out.2.1, HE.out.2.2]; rfl, by have := T1.out.1.2.2.2; (repeat' (first | (with_reducible exact Below.refl _ _) | (with_reducible assumption) | (with_reducible refine below_drewN ?_ _) | (with_reducible refine below_new ?_ _) | (with_reducible refine Below.alloc ?_ ?_ _) | (with_reducible refine Below.drew ?_) | (with_reducible refine Below.setCell ?_ ?_ _) | (with_reducible apply below_at; (case k => (with_reducible assumption)); (case hB => omega)) | (with_reducible apply below_on; (with_reducible assumption)) | (go_size; done) | (with_reducible apply size_of)))⟩
  · have HE : Hid (mtE m = 0 ∧ rgE r = 8 ∧ inE m r p = 8 ∧ inV m r p = 0) := Lib.hid (by
      have e : inE m r p = 8 := by rw [inE, if_neg (by omega)]
      exact ⟨mtE_yes hm, by rw [rgE, hr]; rfl, e, in_no e⟩)
    clear he hm hr
    obtain ⟨m0, m1, -, -⟩ := T0.out.1.1.two; obtain ⟨x0, x1, x2, -, -, -⟩ := T0.out.1.2.1.three; have zl := T0.out.1.1.lt; have zl2 := T0.out.1.2.1.lt; obtain ⟨v0, -⟩ := T0.out.2.one; have zl3 := T0.out.2.lt
    go_enter Try.func15, Try.ntmps15
    go_wp2_with fail
    refine (rCheck_any m _).mono ?_
    rintro e w1 ⟨rfl, hb1⟩
    rw [HE.out.1]
    have T1 := Lib.hid (T0.out.past hb1)
    clear hb1
    clear m0 m1 x0 x1 x2 zl zl2 v0 zl3
    obtain ⟨m0, m1, -, -⟩ := T1.out.1.1.two; obtain ⟨x0, x1, x2, -, -, -⟩ := T1.out.1.2.1.three; have zl := T1.out.1.1.lt; have zl2 := T1.out.1.2.1.lt; obtain ⟨v0, -⟩ := T1.out.2.one; have zl3 := T1.out.2.lt
    go_wp2_with fail
    refine (rgW.rCheck_any r A n c _ T1.out.1.2.2.1).mono ?_
    rintro e w2 ⟨rfl, hb2⟩
    rw [HE.out.2.1]
    have T2 := Lib.hid (T1.out.past hb2)
    clear hb2
    clear m0 m1 x0 x1 x2 zl zl2 v0 zl3
    go_wp2_with fail
    go_ret2
    exact ⟨by rw [HE.out.2.2.1, HE.out.2.2.2]; rfl, by have := T2.out.1.2.2.2; (repeat' (first | (with_reducible exact Below.refl _ _) | (with_reducible assumption) | (with_reducible refine below_drewN ?_ _) | (with_reducible refine below_new ?_ _) | (with_reducible refine Below.alloc ?_ ?_ _) | (with_reducible refine Below.drew ?_) | (with_reducible refine Below.setCell ?_ ?_ _) | (with_reducible apply below_at; (case k => (with_reducible assumption)); (case hB => omega)) | (with_reducible apply below_on; (with_reducible assumption)) | (go_size; done) | (with_reducible apply size_of)))⟩
  obtain ⟨hm, hr⟩ := exE_parts he
  have HMR : Hid (mtE m = 0 ∧ rgE r = 0 ∧ exE m r = 0) := Lib.hid ⟨mtE_yes hm, by rw [rgE, hr]; rfl, he⟩
  cases hk : wOk p
  · have HE : Hid (wE p = 8 ∧ inE m r p = 8 ∧ inV m r p = 0) := Lib.hid (by
      have e : inE m r p = 8 := by rw [inE, if_pos he, wE_no hk]
      exact ⟨wE_no hk, e, in_no e⟩)
    clear he hm hr hk
    obtain ⟨m0, m1, -, -⟩ := T0.out.1.1.two; obtain ⟨x0, x1, x2, -, -, -⟩ := T0.out.1.2.1.three; have zl := T0.out.1.1.lt; have zl2 := T0.out.1.2.1.lt; obtain ⟨v0, -⟩ := T0.out.2.one; have zl3 := T0.out.2.lt
    go_enter Try.func15, Try.ntmps15
    go_wp2_with fail
    refine (rCheck_any m _).mono ?_
    rintro e w1 ⟨rfl, hb1⟩
    rw [HMR.out.1]
    have T1 := Lib.hid (T0.out.past hb1)
    clear hb1
    clear m0 m1 x0 x1 x2 zl zl2 v0 zl3
    obtain ⟨m0, m1, -, -⟩ := T1.out.1.1.two; obtain ⟨x0, x1, x2, -, -, -⟩ := T1.out.1.2.1.three; have zl := T1.out.1.1.lt; have zl2 := T1.out.1.2.1.lt; obtain ⟨v0, -⟩ := T1.out.2.one; have zl3 := T1.out.2.lt
    go_wp2_with fail
    refine (rgW.rCheck_any r A n c _ T1.out.1.2.2.1).mono ?_
    rintro e w2 ⟨rfl, hb2⟩
    rw [HMR.out.2.1]
    have T2 := Lib.hid (T1.out.past hb2)
    clear hb2
    clear m0 m1 x0 x1 x2 zl zl2 v0 zl3
    obtain ⟨m0, m1, -, -⟩ := T2.out.1.1.two; obtain ⟨x0, x1, x2, -, -, -⟩ := T2.out.1.2.1.three; have zl := T2.out.1.1.lt; have zl2 := T2.out.1.2.1.lt; obtain ⟨v0, -⟩ := T2.out.2.one; have zl3 := T2.out.2.lt
    go_wp2_with fail
    refine (nibW.rCheck_any p _).mono ?_
    rintro e w3 ⟨rfl, hb3⟩
    rw [HE.out.1]
    have T3 := Lib.hid (T2.out.past hb3)
    clear hb3
    clear m0 m1 x0 x1 x2 zl zl2 v0 zl3
    go_wp2_with fail
    go_ret2
    exact ⟨by rw [HE.out.2.1, HE.out.2.2]; rfl, by have := T3.out.1.2.2.2; (repeat' (first | (with_reducible exact Below.refl _ _) | (with_reducible assumption) | (with_reducible refine below_drewN ?_ _) | (with_reducible refine below_new ?_ _) | (with_reducible refine Below.alloc ?_ ?_ _) | (with_reducible refine Below.drew ?_) | (with_reducible refine Below.setCell ?_ ?_ _) | (with_reducible apply below_at; (case k => (with_reducible assumption)); (case hB => omega)) | (with_reducible apply below_on; (with_reducible assumption)) | (go_size; done) | (with_reducible apply size_of)))⟩
  · obtain ⟨q, rfl⟩ : ∃ q : Nat, p = q := ⟨p.toNat, by have := (wOk_iff p).1 hk; omega⟩
    have HE : Hid (wE (q : Int) = 0 ∧ inE m r q = 0 ∧ wOk (q : Int) = true) := Lib.hid ⟨wE_yes hk, by rw [inE, if_pos he, wE_yes hk], hk⟩
    clear he hm hr hk
    obtain ⟨m0, m1, -, -⟩ := T0.out.1.1.two; obtain ⟨x0, x1, x2, -, -, -⟩ := T0.out.1.2.1.three; have zl := T0.out.1.1.lt; have zl2 := T0.out.1.2.1.lt; obtain ⟨v0, -⟩ := T0.out.2.one; have zl3 := T0.out.2.lt
    go_enter Try.func15, Try.ntmps15
    go_wp2_with fail
    refine (rCheck_any m _).mono ?_
    rintro e w1 ⟨rfl, hb1⟩
    rw [HMR.out.1]
    have T1 := Lib.hid (T0.out.past hb1)
    clear hb1
    clear m0 m1 x0 x1 x2 zl zl2 v0 zl3
    obtain ⟨m0, m1, -, -⟩ := T1.out.1.1.two; obtain ⟨x0, x1, x2, -, -, -⟩ := T1.out.1.2.1.three; have zl := T1.out.1.1.lt; have zl2 := T1.out.1.2.1.lt; obtain ⟨v0, -⟩ := T1.out.2.one; have zl3 := T1.out.2.lt
    go_wp2_with fail
    refine (rgW.rCheck_any r A n c _ T1.out.1.2.2.1).mono ?_
    rintro e w2 ⟨rfl, hb2⟩
    rw [HMR.out.2.1]
    have T2 := Lib.hid (T1.out.past hb2)
    clear hb2
    clear m0 m1 x0 x1 x2 zl zl2 v0 zl3
    obtain ⟨m0, m1, -, -⟩ := T2.out.1.1.two; obtain ⟨x0, x1, x2, -, -, -⟩ := T2.out.1.2.1.three; have zl := T2.out.1.1.lt; have zl2 := T2.out.1.2.1.lt; obtain ⟨v0, -⟩ := T2.out.2.one; have zl3 := T2.out.2.lt
    go_wp2_with fail
    refine (nibW.rCheck_any q _).mono ?_
    rintro e w3 ⟨rfl, hb3⟩
    rw [HE.out.1]
    have T3 := Lib.hid (T2.out.past hb3)
    clear hb3
    clear m0 m1 x0 x1 x2 zl zl2 v0 zl3
    obtain ⟨m0, m1, -, -⟩ := T3.out.1.1.two; obtain ⟨x0, x1, x2, -, -, -⟩ := T3.out.1.2.1.three; have zl := T3.out.1.1.lt; have zl2 := T3.out.1.2.1.lt; obtain ⟨v0, -⟩ := T3.out.2.one; have zl3 := T3.out.2.lt
    go_wp2_with fail
    refine (Told_any m r A n c q _ T3.out.1.2.2.1 HMR.out.2.2 HE.out.2.2).mono ?_
    rintro e w4 ⟨rfl, hb4⟩
    have T4 := Lib.hid (T3.out.past hb4)
    clear hb4
    clear m0 m1 x0 x1 x2 zl zl2 v0 zl3
    go_wp2_with fail
    go_ret2
    exact ⟨by rw [HE.out.2.1]; rfl, by have := T4.out.1.2.2.2; (repeat' (first | (with_reducible exact Below.refl _ _) | (with_reducible assumption) | (with_reducible refine below_drewN ?_ _) | (with_reducible refine below_new ?_ _) | (with_reducible refine Below.alloc ?_ ?_ _) | (with_reducible refine Below.drew ?_) | (with_reducible refine Below.setCell ?_ ?_ _) | (with_reducible apply below_at; (case k => (with_reducible assumption)); (case hB => omega)) | (with_reducible apply below_on; (with_reducible assumption)) | (go_size; done) | (with_reducible apply size_of)))⟩
end Go.Proofs.Ytemiecghdmagnaa.maW
