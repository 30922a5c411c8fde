/- Several texts as one: MaW3, MaW4. -/
import Derived.Test.YtemiecghdmagnaaGQ
import Derived.Test.YtemiecghdmagnaaGS
namespace Go.Proofs.Ytemiecghdmagnaa.maW
set_option maxRecDepth 100000
open Go.RowKit Go.Proofs.Ytemiecghdmagnaa.base Go.Proofs.Ytemiecghdmagnaa.rgP Go.Proofs.Ytemiecghdmagnaa.fdP Go.Proofs.Ytemiecghdmagnaa.maP Go.Proofs.Ytemiecghdmagnaa.rgW Go.Proofs.Ytemiecghdmagnaa.nibP Go.Proofs.Ytemiecghdmagnaa.nibW
set_option linter.unusedVariables false
set_option linter.unusedSimpArgs false

set_option maxHeartbeats 1000000 in
theorem rExpect_any (m : Mt) (r : Rg) (A : Option Addr) (n c : Nat) (w : World) (h : RgIn w A n c r) :
    Calls Try.prog 13 #[.agg #[.int .i64 (m).a, .int .i64 (m).k], .agg #[.int .i64 (r).l, .slice A n c, .int .i64 (r).n]] w fun e w' => e = .returned (.tuple #[.int .u8 (exV m r), .bool (exB m r), .int .i64 (exE m r)]) ∧ Below w.heap.size w w' := by
  have T0 := Lib.hid (two_start w m r A n c h)
  clear h
  cases hm : mtB m
  · have HE : Hid (mtE m = 8 ∧ exE m r = 8 ∧ exB m r = false ∧ exV m r = 0) := Lib.hid (by
      have e : exE m r = 8 := by rw [exE, hm]; rfl
      exact ⟨mtE_no hm, e, ex_no e⟩)
    clear hm
    go_enter Try.func13, Try.ntmps13
    go_wp2_with fail
    refine (rCheck_any m _).mono ?_
    rintro e w1 ⟨rfl, hb1⟩
    rw [HE.out.1]
    have T1 := Lib.hid (T0.out.past hb1)
    clear hb1
    go_wp2_with fail
    go_ret3
    exact ⟨by rw [HE.out.2.1, HE.out.2.2.1, HE.out.2.2.2]; rfl, by have := T1.out.2.2.2; (repeat' (first | (with_reducible exact Below.refl _ _) | (with_reducible assumption) | (with_reducible refine below_drewN ?_ _) | (with_reducible refine below_new ?_ _) | (with_reducible refine Below.alloc ?_ ?_ _) | (with_reducible refine Below.drew ?_) | (with_reducible refine Below.setCell ?_ ?_ _) | (with_reducible apply below_at; (case k => (with_reducible assumption)); (case hB => omega)) | (with_reducible apply below_on; (with_reducible assumption)) | (go_size; done) | (with_reducible apply size_of)))⟩
  cases hr : rgOk r
  · have HE : Hid (mtE m = 0 ∧ rgE r = 8 ∧ exE m r = 8 ∧ exB m r = false ∧ exV m r = 0) := Lib.hid (by
      have e : exE m r = 8 := by rw [exE, hm, rgE, hr]; rfl
      exact ⟨mtE_yes hm, by rw [rgE, hr]; rfl, e, ex_no e⟩)
    clear hm hr
    go_enter Try.func13, Try.ntmps13
    go_wp2_with fail
    refine (rCheck_any m _).mono ?_
    rintro e w1 ⟨rfl, hb1⟩
    rw [HE.out.1]
    have T1 := Lib.hid (T0.out.past hb1)
    obtain ⟨m0, m1, -, -⟩ := T1.out.1.two; obtain ⟨x0, x1, x2, -, -, -⟩ := T1.out.2.1.three; have zl := T1.out.1.lt; have zl2 := T1.out.2.1.lt
    clear hb1
    go_wp2_with fail
    refine (rgW.rCheck_any r A n c _ T1.out.2.2.1).mono ?_
    rintro e w2 ⟨rfl, hb2⟩
    rw [HE.out.2.1]
    have T2 := Lib.hid (T1.out.past hb2)
    clear hb2
    go_wp2_with fail
    go_ret3
    exact ⟨by rw [HE.out.2.2.1, HE.out.2.2.2.1, HE.out.2.2.2.2]; rfl, by have := T2.out.2.2.2; (repeat' (first | (with_reducible exact Below.refl _ _) | (with_reducible assumption) | (with_reducible refine below_drewN ?_ _) | (with_reducible refine below_new ?_ _) | (with_reducible refine Below.alloc ?_ ?_ _) | (with_reducible refine Below.drew ?_) | (with_reducible refine Below.setCell ?_ ?_ _) | (with_reducible apply below_at; (case k => (with_reducible assumption)); (case hB => omega)) | (with_reducible apply below_on; (with_reducible assumption)) | (go_size; done) | (with_reducible apply size_of)))⟩
  have HE : Hid (mtE m = 0 ∧ rgE r = 0 ∧ exE m r = 0) := Lib.hid ⟨mtE_yes hm, by rw [rgE, hr]; rfl, exE_yes hm hr⟩
  clear hm hr
  go_enter Try.func13, Try.ntmps13
  go_wp2_with fail
  refine (rCheck_any m _).mono ?_
  rintro e w1 ⟨rfl, hb1⟩
  rw [HE.out.1]
  have T1 := Lib.hid (T0.out.past hb1)
  obtain ⟨m0, m1, -, -⟩ := T1.out.1.two; obtain ⟨x0, x1, x2, -, -, -⟩ := T1.out.2.1.three; have zl := T1.out.1.lt; have zl2 := T1.out.2.1.lt
  clear hb1
  go_wp2_with fail
  refine (rgW.rCheck_any r A n c _ T1.out.2.2.1).mono ?_
  rintro e w2 ⟨rfl, hb2⟩
  rw [HE.out.2.1]
  have T2 := Lib.hid (T1.out.past hb2)
  clear hb2
  clear m0 m1 x0 x1 x2 zl zl2
  obtain ⟨m0, m1, -, -⟩ := T2.out.1.two; obtain ⟨x0, x1, x2, -, -, -⟩ := T2.out.2.1.three; have zl := T2.out.1.lt; have zl2 := T2.out.2.1.lt
  go_wp2_with fail
  refine (rExpected_any m r A n c _ T2.out.2.2.1 HE.out.2.2).mono ?_
  rintro e w3 ⟨rfl, hb3⟩
  have T3 := Lib.hid (T2.out.past hb3)
  clear hb3
  clear m0 m1 x0 x1 x2 zl zl2
  go_wp2_with fail
  go_ret3
  exact ⟨by rw [HE.out.2.2]; rfl, by have := T3.out.2.2.2; (repeat' (first | (with_reducible exact Below.refl _ _) | (with_reducible assumption) | (with_reducible refine below_drewN ?_ _) | (with_reducible refine below_new ?_ _) | (with_reducible refine Below.alloc ?_ ?_ _) | (with_reducible refine Below.drew ?_) | (with_reducible refine Below.setCell ?_ ?_ _) | (with_reducible apply below_at; (case k => (with_reducible assumption)); (case hB => omega)) | (with_reducible apply below_on; (with_reducible assumption)) | (go_size; done) | (with_reducible apply size_of)))⟩
/-- Where a match, a ring and a walk lie. -/
def Thr (w W : World) (m : Mt) (r : Rg) (A : Option Addr) (n c : Nat) (p : Int) : Prop := Two w W m r A n c ∧ Lies W (w.heap.size + 2) 31 [.int .i64 p]
theorem Thr.past {w W W' : World} {m : Mt} {r : Rg} {A : Option Addr} {n c : Nat} {p : Int} (h : Thr w W m r A n c p) (hb : Below W.heap.size W W') : Thr w W' m r A n c p := ⟨h.1.past hb, h.2.past hb⟩
theorem thr_start (w : World) (m : Mt) (r : Rg) (A : Option Addr) (n c : Nat) (p : Int) (h : RgIn w A n c r) : Thr w (((w.alloc (.cells #[.int .i64 m.a, .int .i64 m.k] 23)).alloc (.cells #[.int .i64 r.l, .slice A n c, .int .i64 r.n] 26)).alloc (.cells #[.int .i64 p] 31)) m r A n c p :=
  ⟨(two_start w m r A n c h).past (grows_alloc _ _), Lies.fresh_at (by simp)⟩
theorem in_no {m : Mt} {r : Rg} {p : Int} (h : inE m r p = 8) : inV m r p = 0 := by rw [inV, if_neg (by omega)]
theorem or_256 : ∀ b, b < 256 → bits .or .i64 256 (b : Nat) = 256 + b := by decide +kernel
theorem and_one : ∀ y, y < 512 → y % 2 = 0 → bits .and .i64 (y : Nat) 1 = 0 := by decide +kernel
theorem and_one1 : ∀ y, y < 512 → y % 2 = 1 → bits .and .i64 (y : Nat) 1 = 1 := by decide +kernel
set_option maxHeartbeats 1000000 in
theorem Input_any (m : Mt) (r : Rg) (A : Option Addr) (n c : Nat) (p : Int) (w : World) (h : RgIn w A n c r) :
    Calls Try.prog 14 #[.agg #[.int .i64 (m).a, .int .i64 (m).k], .agg #[.int .i64 (r).l, .slice A n c, .int .i64 (r).n], .agg #[.int .i64 p]] w fun e w' => e = .returned (.tuple #[.int .i32 (inV m r p), .int .i64 (inE m r p)]) ∧ Below w.heap.size w w' := by
  have T0 := Lib.hid (thr_start w m r A n c p h)
  have HX := Lib.hid (exV_bd h.b m)
  clear h
  rcases exE_cases m r with he | he
  rotate_left
  · have HE : Hid (exE m r = 8 ∧ inE m r p = 8 ∧ inV m r p = 0) := Lib.hid (by
      have e : inE m r p = 8 := by rw [inE, if_neg (by omega)]
      exact ⟨he, e, in_no e⟩)
    clear he
    obtain ⟨m0, m1, -, -⟩ := T0.out.1.1.two; obtain ⟨x0, x1, x2, -, -, -⟩ := T0.out.1.2.1.three; have zl := T0.out.1.1.lt; have zl2 := T0.out.1.2.1.lt; obtain ⟨v0, -⟩ := T0.out.2.one; have zl3 := T0.out.2.lt
    go_enter Try.func14, Try.ntmps14
    go_wp2_with fail
    refine (Expect_any m r A n c _ T0.out.1.2.2.1).mono ?_
    rintro e w1 ⟨rfl, hb1⟩
    rw [HE.out.1]
    have T1 := Lib.hid (T0.out.past hb1)
    clear hb1
    clear m0 m1 x0 x1 x2 zl zl2 v0 zl3
    go_wp2_with fail
    go_ret2
    exact ⟨by rw [HE.out.2.1, HE.out.2.2]; rfl, by have := T1.out.1.2.2.2; (repeat' (first | (with_reducible exact Below.refl _ _) | (with_reducible assumption) | (with_reducible refine below_drewN ?_ _) | (with_reducible refine below_new ?_ _) | (with_reducible refine Below.alloc ?_ ?_ _) | (with_reducible refine Below.drew ?_) | (with_reducible refine Below.setCell ?_ ?_ _) | (with_reducible apply below_at; (case k => (with_reducible assumption)); (case hB => omega)) | (with_reducible apply below_on; (with_reducible assumption)) | (go_size; done) | (with_reducible apply size_of)))⟩
  cases hk : wOk p
  · have HE : Hid (exE m r = 0 ∧ wE p = 8 ∧ inE m r p = 8 ∧ inV m r p = 0) := Lib.hid (by
      have e : inE m r p = 8 := by rw [inE, if_pos he, wE_no hk]
      exact ⟨he, wE_no hk, e, in_no e⟩)
    clear he hk
    obtain ⟨m0, m1, -, -⟩ := T0.out.1.1.two; obtain ⟨x0, x1, x2, -, -, -⟩ := T0.out.1.2.1.three; have zl := T0.out.1.1.lt; have zl2 := T0.out.1.2.1.lt; obtain ⟨v0, -⟩ := T0.out.2.one; have zl3 := T0.out.2.lt
    go_enter Try.func14, Try.ntmps14
    go_wp2_with fail
    refine (Expect_any m r A n c _ T0.out.1.2.2.1).mono ?_
    rintro e w1 ⟨rfl, hb1⟩
    rw [HE.out.1]
    have T1 := Lib.hid (T0.out.past hb1)
    clear hb1
    clear m0 m1 x0 x1 x2 zl zl2 v0 zl3
    obtain ⟨m0, m1, -, -⟩ := T1.out.1.1.two; obtain ⟨x0, x1, x2, -, -, -⟩ := T1.out.1.2.1.three; have zl := T1.out.1.1.lt; have zl2 := T1.out.1.2.1.lt; obtain ⟨v0, -⟩ := T1.out.2.one; have zl3 := T1.out.2.lt
    go_wp2_with fail
    refine (nibW.Check_any p _).mono ?_
    rintro e w2 ⟨rfl, hb2⟩
    rw [HE.out.2.1]
    have T2 := Lib.hid (T1.out.past hb2)
    clear hb2
    clear m0 m1 x0 x1 x2 zl zl2 v0 zl3
    go_wp2_with fail
    go_ret2
    exact ⟨by rw [HE.out.2.2.1, HE.out.2.2.2]; rfl, by have := T2.out.1.2.2.2; (repeat' (first | (with_reducible exact Below.refl _ _) | (with_reducible assumption) | (with_reducible refine below_drewN ?_ _) | (with_reducible refine below_new ?_ _) | (with_reducible refine Below.alloc ?_ ?_ _) | (with_reducible refine Below.drew ?_) | (with_reducible refine Below.setCell ?_ ?_ _) | (with_reducible apply below_at; (case k => (with_reducible assumption)); (case hB => omega)) | (with_reducible apply below_on; (with_reducible assumption)) | (go_size; done) | (with_reducible apply size_of)))⟩
  have HE : Hid (exE m r = 0 ∧ wE p = 0 ∧ inE m r p = 0) := Lib.hid ⟨he, wE_yes hk, by rw [inE, if_pos he, wE_yes hk]⟩
  cases hB : exB m r
  · have HV : Hid (exB m r = false ∧ inV m r p = 0) := Lib.hid ⟨hB, by rw [inV, if_pos HE.out.2.2, hB]; rfl⟩
    clear he hk hB
    obtain ⟨m0, m1, -, -⟩ := T0.out.1.1.two; obtain ⟨x0, x1, x2, -, -, -⟩ := T0.out.1.2.1.three; have zl := T0.out.1.1.lt; have zl2 := T0.out.1.2.1.lt; obtain ⟨v0, -⟩ := T0.out.2.one; have zl3 := T0.out.2.lt
    go_enter Try.func14, Try.ntmps14
    go_wp2_with fail
    refine (Expect_any m r A n c _ T0.out.1.2.2.1).mono ?_
    rintro e w1 ⟨rfl, hb1⟩
    rw [HE.out.1, HV.out.1]
    have T1 := Lib.hid (T0.out.past hb1)
    clear hb1
    clear m0 m1 x0 x1 x2 zl zl2 v0 zl3
    obtain ⟨m0, m1, -, -⟩ := T1.out.1.1.two; obtain ⟨x0, x1, x2, -, -, -⟩ := T1.out.1.2.1.three; have zl := T1.out.1.1.lt; have zl2 := T1.out.1.2.1.lt; obtain ⟨v0, -⟩ := T1.out.2.one; have zl3 := T1.out.2.lt
    go_wp2_with fail
    refine (nibW.Check_any p _).mono ?_
    rintro e w2 ⟨rfl, hb2⟩
    rw [HE.out.2.1]
    have T2 := Lib.hid (T1.out.past hb2)
    clear hb2
    clear m0 m1 x0 x1 x2 zl zl2 v0 zl3
    go_wp2_with fail
    go_ret2
    exact ⟨by rw [HE.out.2.2, HV.out.2]; rfl, by have := T2.out.1.2.2.2; (repeat' (first | (with_reducible exact Below.refl _ _) | (with_reducible assumption) | (with_reducible refine below_drewN ?_ _) | (with_reducible refine below_new ?_ _) | (with_reducible refine Below.alloc ?_ ?_ _) | (with_reducible refine Below.drew ?_) | (with_reducible refine Below.setCell ?_ ?_ _) | (with_reducible apply below_at; (case k => (with_reducible assumption)); (case hB => omega)) | (with_reducible apply below_on; (with_reducible assumption)) | (go_size; done) | (with_reducible apply size_of)))⟩
  · obtain ⟨q, rfl⟩ : ∃ q : Nat, p = q := ⟨p.toNat, by have := (wOk_iff p).1 hk; omega⟩
    have q1 : 1 ≤ q := by have := (wOk_iff _).1 hk; omega
    have q2 : q < 256 := by have := (wOk_iff _).1 hk; omega
    obtain ⟨b, hb⟩ : ∃ b : Nat, exV m r = b := ⟨(exV m r).toNat, by have := HX.out; omega⟩
    have b1 : b < 256 := by have := HX.out; omega
    have HV : Hid (inV m r q = tdV b q m.k) := Lib.hid (by rw [inV, if_pos HE.out.2.2, if_pos hB, hb]; simp)
    have hmk := (exE_parts he).1
    have hk2 := (mtB_iff m).1 hmk
    have k0 : 0 ≤ m.k := by omega
    have k9 : m.k ≤ 40 := by omega
    have HTD := Lib.hid (tdV_eq m.k b1 q1 q2)
    have hlen := rd_seven q q2 q1
    have HBB := Lib.hid hb
    have HBE := Lib.hid hB
    have HBS : Hid (bsV (q : Int) = rd q) := Lib.hid (by simp [bsV, hk])
    have hor := or_256 b b1
    obtain ⟨L, hL⟩ : ∃ L, (rd q).length = L := ⟨_, rfl⟩
    rw [hL] at hlen HTD
    have L7 : L ≤ 7 := hlen.1
    have HL := Lib.hid hL
    clear he hk hB hmk hk2 hb hlen hL HX
    obtain ⟨m0, m1, -, -⟩ := T0.out.1.1.two; obtain ⟨x0, x1, x2, -, -, -⟩ := T0.out.1.2.1.three; have zl := T0.out.1.1.lt; have zl2 := T0.out.1.2.1.lt; obtain ⟨v0, -⟩ := T0.out.2.one; have zl3 := T0.out.2.lt
    go_enter Try.func14, Try.ntmps14
    go_wp2_with fail
    refine (Expect_any m r A n c _ T0.out.1.2.2.1).mono ?_
    rintro e w1 ⟨rfl, hb1⟩
    rw [HE.out.1, HBE.out, HBB.out]
    have T1 := Lib.hid (T0.out.past hb1)
    clear hb1
    clear m0 m1 x0 x1 x2 zl zl2 v0 zl3
    obtain ⟨m0, m1, -, -⟩ := T1.out.1.1.two; obtain ⟨x0, x1, x2, -, -, -⟩ := T1.out.1.2.1.three; have zl := T1.out.1.1.lt; have zl2 := T1.out.1.2.1.lt; obtain ⟨v0, -⟩ := T1.out.2.one; have zl3 := T1.out.2.lt
    go_wp2_with fail
    refine (nibW.Check_any q _).mono ?_
    rintro e w2 ⟨rfl, hb2⟩
    rw [HE.out.2.1]
    have T2 := Lib.hid (T1.out.past hb2)
    clear hb2
    clear m0 m1 x0 x1 x2 zl zl2 v0 zl3
    obtain ⟨m0, m1, -, -⟩ := T2.out.1.1.two; obtain ⟨x0, x1, x2, -, -, -⟩ := T2.out.1.2.1.three; have zl := T2.out.1.1.lt; have zl2 := T2.out.1.2.1.lt; obtain ⟨v0, -⟩ := T2.out.2.one; have zl3 := T2.out.2.lt
    go_wp2_with fail
    refine (nibW.Bits_any q _).mono ?_
    rintro e w3 ⟨B3, c3, rfl, o3, hc3, hb3⟩
    rw [HE.out.2.1]
    rw [HBS.out] at hc3 ⊢
    rw [HL.out] at hc3 ⊢
    have T3 := Lib.hid (T2.out.past hb3)
    clear hb3 o3
    clear m0 m1 x0 x1 x2 zl zl2 v0 zl3
    obtain ⟨m0, m1, -, -⟩ := T3.out.1.1.two; obtain ⟨x0, x1, x2, -, -, -⟩ := T3.out.1.2.1.three; have zl := T3.out.1.1.lt; have zl2 := T3.out.1.2.1.lt; obtain ⟨v0, -⟩ := T3.out.2.one; have zl3 := T3.out.2.lt
    generalize m.k = k at *
    obtain ⟨s, hs⟩ : ∃ s, 7 - L = s := ⟨_, rfl⟩
    have s8 : 8 - (L : Int) = ((s + 1 : Nat) : Int) := by omega
    have HS : Hid (8 - L = s + 1 ∧ 7 - L = s) := Lib.hid (by omega)
    have s9 : ((s + 1 : Nat) : Int) - 1 = (s : Int) := by omega
    obtain ⟨x, hx⟩ : ∃ x, (256 + b) / 2 ^ (s + 1) = x := ⟨_, rfl⟩
    obtain ⟨y, hy⟩ : ∃ y, (256 + b) / 2 ^ s = y := ⟨_, rfl⟩
    have hx' : (256 + (b : Int)) / 2 ^ (s + 1) = (x : Int) := by rw [← hx]; simp
    have hy' : (256 + (b : Int)) / 2 ^ s = (y : Int) := by rw [← hy]; simp
    rw [HS.out.1, HS.out.2, hx, hy] at HTD
    have hy9 : y < 512 := by rw [← hy]; exact Nat.lt_of_le_of_lt (Nat.div_le_self _ _) (by omega)
    clear hs hx hy
    go_wp2_with fail
    go_quiet (fail)
    by_cases hxq : x = q
    · have hne : ((x : Int) != (q : Int)) = false := by rw [hxq]; simp
      have HXQ := Lib.hid hxq
      clear hxq
      by_cases hy0 : y % 2 = 0
      · have hand : bits .and .i64 (y : Int) 1 = 0 := and_one y hy9 hy0
        have HY := Lib.hid hy0
        clear hy0
        go_wp2_with fail
        go_ret2
        exact ⟨by rw [HE.out.2.2, HV.out, HTD.out, if_pos HXQ.out, if_pos HY.out]; rfl, by have := T3.out.1.2.2.2; (repeat' (first | (with_reducible exact Below.refl _ _) | (with_reducible assumption) | (with_reducible refine below_drewN ?_ _) | (with_reducible refine below_new ?_ _) | (with_reducible refine Below.alloc ?_ ?_ _) | (with_reducible refine Below.drew ?_) | (with_reducible refine Below.setCell ?_ ?_ _) | (with_reducible apply below_at; (case k => (with_reducible assumption)); (case hB => omega)) | (with_reducible apply below_on; (with_reducible assumption)) | (go_size; done) | (with_reducible apply size_of)))⟩
      · have hand : bits .and .i64 (y : Int) 1 = 1 := and_one1 y hy9 (by omega)
        have HY := Lib.hid hy0
        clear hy0
        go_wp2_with fail
        go_ret2
        exact ⟨by rw [HE.out.2.2, HV.out, HTD.out, if_pos HXQ.out, if_neg HY.out]; rfl, by have := T3.out.1.2.2.2; (repeat' (first | (with_reducible exact Below.refl _ _) | (with_reducible assumption) | (with_reducible refine below_drewN ?_ _) | (with_reducible refine below_new ?_ _) | (with_reducible refine Below.alloc ?_ ?_ _) | (with_reducible refine Below.drew ?_) | (with_reducible refine Below.setCell ?_ ?_ _) | (with_reducible apply below_at; (case k => (with_reducible assumption)); (case hB => omega)) | (with_reducible apply below_on; (with_reducible assumption)) | (go_size; done) | (with_reducible apply size_of)))⟩
    · have hne : ((x : Int) != (q : Int)) = true := by simp; omega
      have HXQ := Lib.hid hxq
      clear hxq
      go_wp2_with fail
      go_ret2
      exact ⟨by rw [HE.out.2.2, HV.out, HTD.out, if_neg HXQ.out]; rfl, by have := T3.out.1.2.2.2; (repeat' (first | (with_reducible exact Below.refl _ _) | (with_reducible assumption) | (with_reducible refine below_drewN ?_ _) | (with_reducible refine below_new ?_ _) | (with_reducible refine Below.alloc ?_ ?_ _) | (with_reducible refine Below.drew ?_) | (with_reducible refine Below.setCell ?_ ?_ _) | (with_reducible apply below_at; (case k => (with_reducible assumption)); (case hB => omega)) | (with_reducible apply below_on; (with_reducible assumption)) | (go_size; done) | (with_reducible apply size_of)))⟩
end Go.Proofs.Ytemiecghdmagnaa.maW

namespace Go.Proofs.Ytemiecghdmagnaa.maW
set_option maxRecDepth 100000
open Go.RowKit Go.Proofs.Ytemiecghdmagnaa.base Go.Proofs.Ytemiecghdmagnaa.rgP Go.Proofs.Ytemiecghdmagnaa.fdP Go.Proofs.Ytemiecghdmagnaa.maP Go.Proofs.Ytemiecghdmagnaa.rgW Go.Proofs.Ytemiecghdmagnaa.nibP Go.Proofs.Ytemiecghdmagnaa.nibW
set_option linter.unusedVariables false
set_option linter.unusedSimpArgs false

set_option maxHeartbeats 400000 in
theorem rByte_any (b : Nat) (w : World) (hb : b < 256) : Calls Try.prog 29 #[.int .u8 b] w (RdRes (256 + b) w) := by
  have R := fun w => rRead_any 10 (256 + b) w (by omega) (by omega) (by omega)
  rw [show ((256 + b : Nat) : Int) = 256 + (b : Int) by omega] at R
  go_enter Try.func29, Try.ntmps29
  go_wp2_with fail
  refine (R w).mono ?_
  rintro e w1 ⟨A, c, rfl, own, hb1⟩
  have HO := Lib.hid own
  clear own
  go_wp2
  go_ret
  exact ⟨A, c, rfl, HO.out, hb1⟩
set_option maxHeartbeats 1000000 in
theorem Told_any (m : Mt) (r : Rg) (A : Option Addr) (n c q : Nat) (w : World) (h : RgIn w A n c r) (he : exE m r = 0) (hk : wOk q = true) :
    Calls Try.prog 38 #[.agg #[.int .i64 (m).a, .int .i64 (m).k], .agg #[.int .i64 (r).l, .slice A n c, .int .i64 (r).n], .agg #[.int .i64 (q : Int)]] w fun e w' => e = .returned (.int .i32 (inV m r q)) ∧ Below w.heap.size w w' := by
  have T0 := Lib.hid (thr_start w m r A n c q h)
  have HX := Lib.hid (exV_bd h.b m)
  have HE : Hid (exE m r = 0 ∧ wE q = 0 ∧ inE m r q = 0) := Lib.hid ⟨he, wE_yes hk, by rw [inE, if_pos he, wE_yes hk]⟩
  clear h
  cases hB : exB m r
  · have HV : Hid (exB m r = false ∧ inV m r q = 0) := Lib.hid ⟨hB, by rw [inV, if_pos HE.out.2.2, hB]; rfl⟩
    clear he hk hB
    obtain ⟨m0, m1, -, -⟩ := T0.out.1.1.two; obtain ⟨x0, x1, x2, -, -, -⟩ := T0.out.1.2.1.three; have zl := T0.out.1.1.lt; have zl2 := T0.out.1.2.1.lt; obtain ⟨v0, -⟩ := T0.out.2.one; have zl3 := T0.out.2.lt
    go_enter Try.func38, Try.ntmps38
    go_wp2_with fail
    refine (rExpected_any m r A n c _ T0.out.1.2.2.1 HE.out.1).mono ?_
    rintro e w1 ⟨rfl, hb1⟩
    rw [HV.out.1]
    have T1 := Lib.hid (T0.out.past hb1)
    clear hb1
    clear m0 m1 x0 x1 x2 zl zl2 v0 zl3
    go_wp2_with fail
    go_ret
    exact ⟨by rw [HV.out.2]; rfl, by have := T1.out.1.2.2.2; (repeat' (first | (with_reducible exact Below.refl _ _) | (with_reducible assumption) | (with_reducible refine below_drewN ?_ _) | (with_reducible refine below_new ?_ _) | (with_reducible refine Below.alloc ?_ ?_ _) | (with_reducible refine Below.drew ?_) | (with_reducible refine Below.setCell ?_ ?_ _) | (with_reducible apply below_at; (case k => (with_reducible assumption)); (case hB => omega)) | (with_reducible apply below_on; (with_reducible assumption)) | (go_size; done) | (with_reducible apply size_of)))⟩
  · have q1 : 1 ≤ q := by have := (wOk_iff _).1 hk; omega
    have q2 : q < 256 := by have := (wOk_iff _).1 hk; omega
    obtain ⟨b, hb⟩ : ∃ b : Nat, exV m r = b := ⟨(exV m r).toNat, by have := HX.out; omega⟩
    have b1 : b < 256 := by have := HX.out; omega
    have HV : Hid (inV m r q = tdV b q m.k) := Lib.hid (by rw [inV, if_pos HE.out.2.2, if_pos hB, hb]; simp)
    have hmk := (exE_parts he).1
    have hk2 := (mtB_iff m).1 hmk
    have k0 : 0 ≤ m.k := by omega
    have k9 : m.k ≤ 40 := by omega
    have HBB := Lib.hid hb
    have HBE := Lib.hid hB
    have HRR := Lib.hid (fun w => rRead_any 10 q w q1 (by omega) (by omega))
    have HRB := Lib.hid (fun w => rByte_any b w b1)
    have hlen := rd_seven q q2 q1
    have HL8 := Lib.hid (rd_byte b b1).1
    obtain ⟨l, hl⟩ : ∃ l, rd q = l := ⟨_, rfl⟩
    obtain ⟨l8, hl8⟩ : ∃ l, rd (256 + b) = l := ⟨_, rfl⟩
    have HTD : Hid (tdV b q m.k = if l = l8.take l.length then (if l8.getD l.length false then 50 * m.k else -(50 * m.k)) else 0) := Lib.hid (by rw [← hl, ← hl8]; rfl)
    unfold RdRes at HRR HRB
    rw [hl] at HRR hlen
    rw [hl8] at HRB HL8
    have HL7 : Hid (l.length ≤ 7) := Lib.hid hlen.1
    clear he hk hB hmk hk2 hb hlen hl hl8 HX
    obtain ⟨m0, m1, -, -⟩ := T0.out.1.1.two; obtain ⟨x0, x1, x2, -, -, -⟩ := T0.out.1.2.1.three; have zl := T0.out.1.1.lt; have zl2 := T0.out.1.2.1.lt; obtain ⟨v0, -⟩ := T0.out.2.one; have zl3 := T0.out.2.lt
    go_enter Try.func38, Try.ntmps38
    go_wp2_with fail
    refine (rExpected_any m r A n c _ T0.out.1.2.2.1 HE.out.1).mono ?_
    rintro e w1 ⟨rfl, hb1⟩
    rw [HBE.out, HBB.out]
    have T1 := Lib.hid (T0.out.past hb1)
    clear hb1
    clear m0 m1 x0 x1 x2 zl zl2 v0 zl3
    obtain ⟨m0, m1, -, -⟩ := T1.out.1.1.two; obtain ⟨x0, x1, x2, -, -, -⟩ := T1.out.1.2.1.three; have zl := T1.out.1.1.lt; have zl2 := T1.out.1.2.1.lt; obtain ⟨v0, -⟩ := T1.out.2.one; have zl3 := T1.out.2.lt
    go_wp2_with fail
    refine (HRR.out _).mono ?_
    rintro e w2 ⟨B2, c2, rfl, o2, hb2⟩
    have T2 := Lib.hid (T1.out.past hb2)
    obtain ⟨B2', c2', hv2, hh2, hc2, -⟩ := o2.val
    injection hv2 with e1 e2 e3
    subst e1 e3
    have H2 := Lib.hid hh2
    clear hb2 o2 hh2 e2 hc2
    clear m0 m1 x0 x1 x2 zl zl2 v0 zl3
    go_wp2_with fail
    refine (HRB.out _).mono ?_
    rintro e w3 ⟨B3, c3, rfl, o3, hb3⟩
    have T3 := Lib.hid (T2.out.past hb3)
    have H3 := Lib.hid (H2.out.below hb3 (Nat.le_refl _))
    obtain ⟨B3', c3', hv3, hh3, hc3, -⟩ := o3.val
    injection hv3 with e1 e2 e3
    subst e1 e3
    rw [HL8.out] at hc3 ⊢
    obtain ⟨L, hL⟩ : ∃ L, l.length = L := ⟨_, rfl⟩
    rw [hL] at HTD HL7 ⊢
    have c30 : (L : Int) ≤ c3 := by have := HL7.out; omega
    have c31 : (L : Int) < 8 := by have := HL7.out; omega
    have H4 := Lib.hid hh3
    have HCL := Lib.hid hL
    clear hb3 o3 hh3 e2 hc3 hL
    go_wp2_with fail
    refine (nibW.rSame_any B2 B3 L L c2 c3 l (l8.take L) _ H3.out HCL.out (H4.out.front L) (by rw [List.length_take, HL8.out]; have := HL7.out; omega) (by have := HL7.out; omega) (by have := HL7.out; omega)).mono ?_
    rintro e w4 ⟨rfl, hb4⟩
    have T4 := Lib.hid (T3.out.past hb4)
    have H5 := Lib.hid (H4.out.below hb4 (Nat.le_refl _))
    clear hb4
    obtain ⟨m0, m1, -, -⟩ := T4.out.1.1.two; obtain ⟨x0, x1, x2, -, -, -⟩ := T4.out.1.2.1.three; have zl := T4.out.1.1.lt; have zl2 := T4.out.1.2.1.lt; obtain ⟨v0, -⟩ := T4.out.2.one; have zl3 := T4.out.2.lt
    by_cases hs : l = l8.take L
    · have hd : decide (l = l8.take L) = true := decide_eq_true hs
      have HD := Lib.hid hs
      rw [hd]
      obtain ⟨g, off, rfl, hg, hcell⟩ : ∃ g off, B3 = some ⟨g, off, none⟩ ∧ g < w4.heap.size ∧ ∀ i, i < l8.length → w4.cell? ⟨g, off + i, none⟩ = some (.bool (l8.getD i false)) := by
        rcases H5.out with h | h
        · rw [h] at HL8; have := HL8.out; cases this
        · exact h
      have hcl := hcell L (by rw [HL8.out]; have := HL7.out; omega)
      obtain ⟨bb, hbb⟩ : ∃ bb, l8.getD L false = bb := ⟨_, rfl⟩
      rw [hbb] at hcl HTD
      clear hs hd hcell hbb
      generalize m.k = k at *
      have hneg : -50 * k = -(50 * k) := by omega
      cases bb
      all_goals
        go_wp2_with fail
        go_ret
        exact ⟨by rw [HV.out, HTD.out, if_pos HD.out]; first | rfl | simp, by have := T4.out.1.2.2.2; (repeat' (first | (with_reducible exact Below.refl _ _) | (with_reducible assumption) | (with_reducible refine below_drewN ?_ _) | (with_reducible refine below_new ?_ _) | (with_reducible refine Below.alloc ?_ ?_ _) | (with_reducible refine Below.drew ?_) | (with_reducible refine Below.setCell ?_ ?_ _) | (with_reducible apply below_at; (case k => (with_reducible assumption)); (case hB => omega)) | (with_reducible apply below_on; (with_reducible assumption)) | (go_size; done) | (with_reducible apply size_of)))⟩
    · have hd : decide (l = l8.take L) = false := decide_eq_false hs
      have HD := Lib.hid hs
      rw [hd]
      clear hs hd
      go_wp2_with fail
      go_ret
      exact ⟨by rw [HV.out, HTD.out, if_neg HD.out]; rfl, by have := T4.out.1.2.2.2; (repeat' (first | (with_reducible exact Below.refl _ _) | (with_reducible assumption) | (with_reducible refine below_drewN ?_ _) | (with_reducible refine below_new ?_ _) | (with_reducible refine Below.alloc ?_ ?_ _) | (with_reducible refine Below.drew ?_) | (with_reducible refine Below.setCell ?_ ?_ _) | (with_reducible apply below_at; (case k => (with_reducible assumption)); (case hB => omega)) | (with_reducible apply below_on; (with_reducible assumption)) | (go_size; done) | (with_reducible apply size_of)))⟩
end Go.Proofs.Ytemiecghdmagnaa.maW
