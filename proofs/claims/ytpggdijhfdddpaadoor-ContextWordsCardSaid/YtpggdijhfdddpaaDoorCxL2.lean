/- ContextFinds, by a walk. -/
import Derived.Test.YtpggdijhfdddpaaDoorCxA2
import Derived.Test.YtpggdijhfdddpaaDoorCxW6
import Derived.Test.YtpggdijhfdddpaaDoorOwnZ
import Derived.Test.YtpggdijhfdddpaaDoorCxEq
namespace Go.Proofs.YtpggdijhfdddpaaDoor.cxW
open Go.RowKit Go.Proofs.YtpggdijhfdddpaaDoor.base Go.Proofs.YtpggdijhfdddpaaDoor.rgP Go.Proofs.YtpggdijhfdddpaaDoor.cxP Go.Proofs.YtpggdijhfdddpaaDoor.hashP Go.Proofs.YtpggdijhfdddpaaDoor.hashW Go.Proofs.YtpggdijhfdddpaaDoor.rgW
set_option linter.unusedVariables false
set_option linter.unusedSimpArgs false
theorem OwnZ.caps {w : World} {B : Nat} {A : Option Addr} {n c : Nat} {zs : List Int} (h : OwnZ w B (.slice A n c) zs) : n = zs.length ∧ n ≤ c ∧ c ≤ 9223372036854775807 := by
  rcases h with h | ⟨h0, D, e⟩
  · obtain ⟨hl, h2⟩ := h
    rcases h2 with ⟨h', h0⟩ | ⟨g', cap, cur, hv, hB, hg, hnc, hcm, hcs, ht⟩
    · injection h' with _ v2 v3
      subst v2 v3
      exact ⟨h0.symm, Nat.le_refl _, by omega⟩
    · injection hv with v1 v2 v3
      subst v2 v3
      exact ⟨rfl, hnc, by simpa [maxLen] using hcm⟩
  · injection e with _ v2 v3
    subst v2 v3 h0
    exact ⟨rfl, Nat.le_refl _, by omega⟩
theorem twin_in {w w' : World} {A A' : Option Addr} {n c c' B : Nat} {r : Rg} (h : RgIn w A n c r) (o : OwnZ w' B (.slice A' n c') r.b) : RgIn w' A' n c' r := by
  obtain ⟨c1, c2, c3⟩ := OwnZ.caps o
  exact ⟨h.l1, h.l2, h.n1, h.n2, o.has, h.e, c2, c3, h.b⟩

theorem sameB_self (a : Rg) : sameB a a = true := by unfold sameB; rw [decide_eq_true rfl, decide_eq_true rfl, decide_eq_true rfl]; rfl
set_option maxRecDepth 100000 in
set_option maxHeartbeats 1500000 in
theorem finds_law (A : Option Addr) (n c : Nat) (r : Rg) (m p : Int) (w : World) (h : RgIn w A n c r) (m1 : 0 ≤ m) (m2 : m ≤ 4294967295) (p1 : -9223372036854775808 ≤ p) (p2 : p ≤ 9223372036854775807) (hT : Tab w) :
    Calls Tryd.prog 3 #[.agg #[.int .i64 (r).l, .slice A n c, .int .i64 (r).n], .int .u32 m, .int .i64 p] w fun e w' => e = .returned (.bool true) ∧ Below w.heap.size w w' := by
  have HTT := Lib.hid hT
  have H := Lib.hid h
  have HM : Hid (n ≤ 9223372036854775807) := Lib.hid (by have := h.c1; have := h.c2; omega)
  have LL : Hid (Lies (w.alloc (.cells #[.int .i64 r.l, .slice A n c, .int .i64 r.n] 24)) (w.heap.size) 24 [.int .i64 (r).l, .slice (A) (n) (c), .int .i64 (r).n]) := Lib.hid (Lies.fresh _ _ _)
  clear h hT
  by_cases hg : 8300 < n
  · have HG : Hid (decide (8300 < n) = true) := Lib.hid (decide_eq_true hg)
    clear hg
    go_enter Tryd.func3, Tryd.ntmps3
    go_wp2_with fail
    refine (great_any r A n c _ HM.out).mono ?_
    rintro e w1 ⟨rfl, hb1⟩
    rw [HG.out]
    go_wp2_with fail
    go_ret
    exact ⟨rfl, by (repeat' (first | (with_reducible exact Below.refl _ _) | (with_reducible assumption) | (with_reducible refine below_drewN ?_ _) | (with_reducible refine below_new ?_ _) | (with_reducible refine Below.alloc ?_ ?_ _) | (with_reducible refine Below.drew ?_) | (with_reducible refine Below.setCell ?_ ?_ _) | (with_reducible apply below_at; (case k => (with_reducible assumption)); (case hB => omega)) | (with_reducible apply below_on; (with_reducible assumption)) | (go_size; done) | (with_reducible apply size_of)))⟩
  · have HG : Hid (decide (8300 < n) = false) := Lib.hid (decide_eq_false hg)
    have HN : Hid (n ≤ 8300) := Lib.hid (by omega)
    clear hg
    go_enter Tryd.func3, Tryd.ntmps3
    go_wp2_with fail
    refine (great_any r A n c _ HM.out).mono ?_
    rintro e w1 ⟨rfl, hb1⟩
    rw [HG.out]
    have K1 : Lies (w1) (w.heap.size) 24 [.int .i64 (r).l, .slice (A) (n) (c), .int .i64 (r).n] := LL.out.past hb1
    obtain ⟨x0, x1, x2, -, -, -⟩ := K1.three
    have HB1 : Hid (Below w.heap.size w w1) := Lib.hid (by (repeat' (first | (with_reducible exact Below.refl _ _) | (with_reducible assumption) | (with_reducible refine below_drewN ?_ _) | (with_reducible refine below_new ?_ _) | (with_reducible refine Below.alloc ?_ ?_ _) | (with_reducible refine Below.drew ?_) | (with_reducible refine Below.setCell ?_ ?_ _) | (with_reducible apply below_at; (case k => (with_reducible assumption)); (case hB => omega)) | (with_reducible apply below_on; (with_reducible assumption)) | (go_size; done) | (with_reducible apply size_of))))
    clear hb1
    go_wp2_with fail
    refine (Twin_any r A n c _ (H.out.below HB1.out).h H.out.e HN.out).mono ?_
    rintro e w2 ⟨A1, c1, rfl, o2, hb2⟩
    have I1 := twin_in H.out o2
    have HS : Hid (St w (w2.alloc (.cells #[.int .i64 r.l, .slice A1 n c1, .int .i64 r.n] 24)) w.heap.size w2.heap.size r A n c r A1 n c1) := Lib.hid ⟨(HB1.out.trans (hb2.mono HB1.out.size)).alloc ((HB1.out.trans (hb2.mono HB1.out.size)).size) _, H.out.below ((HB1.out.trans (hb2.mono HB1.out.size)).alloc ((HB1.out.trans (hb2.mono HB1.out.size)).size) _), I1.below (grows_alloc _ _), (K1.past hb2).alloc _, Lies.fresh _ _ _⟩
    clear I1 o2 hb2 K1 x0 x1 x2
    obtain ⟨x0, x1, x2, -, -, -⟩ := HS.out.2.2.2.2.three
    go_wp2_with fail
    refine (Of_any r A1 n c1 _ HS.out.2.2.1 (HTT.out.below HS.out.1 (Nat.le_refl _))).mono ?_
    rintro e w3 ⟨rfl, hb3⟩
    have HS3 := Lib.hid (HS.out.past hb3)
    clear hb3 x0 x1 x2
    have HOF := Lib.hid (rOf_any r A n c)
    have heq := a6_same r H.out.b
    generalize mkV r 0 = a0 at *
    generalize mkV r 1 = a1 at *
    generalize mkV r 2 = a2 at *
    generalize mkV r 3 = a3 at *
    generalize mkV r 4 = a4 at *
    generalize mkV r 5 = a5 at *
    have HEQ := Lib.hid heq
    clear heq
    obtain ⟨x0, x1, x2, -, -, -⟩ := HS3.out.2.2.2.1.three
    have zl := HS3.out.2.2.2.1.lt
    go_wp2_with fail
    refine (HOF.out _ (HS3.out.2.1.below (grows_alloc _ _))).mono ?_
    rintro e w4 ⟨rfl, hb4⟩
    have HA4 : Hid (Lies w4 w3.heap.size 28 [.int .u32 a0, .int .u32 a1, .int .u32 a2, .int .u32 a3, .int .u32 a4, .int .u32 a5]) := Lib.hid ((Lies.fresh _ _ _).past hb4)
    have HS4 := Lib.hid ((HS3.out.past (grows_alloc _ _)).past hb4)
    clear hb4 x0 x1 x2
    have HB4 : Hid (Lies (w4.alloc (.cells #[.int .u32 a0, .int .u32 a1, .int .u32 a2, .int .u32 a3, .int .u32 a4, .int .u32 a5] 28)) w4.heap.size 28 [.int .u32 a0, .int .u32 a1, .int .u32 a2, .int .u32 a3, .int .u32 a4, .int .u32 a5]) := Lib.hid (Lies.fresh _ _ _)
    have HS5 := Lib.hid (HS4.out.past (grows_alloc w4 (.cells #[.int .u32 a0, .int .u32 a1, .int .u32 a2, .int .u32 a3, .int .u32 a4, .int .u32 a5] 28)))
    have HA5 := Lib.hid (HA4.out.alloc (.cells #[.int .u32 a0, .int .u32 a1, .int .u32 a2, .int .u32 a3, .int .u32 a4, .int .u32 a5] 28))
    obtain ⟨x0, x1, x2, -, -, -⟩ := HS5.out.2.2.2.2.three
    go_wp2_with fail
    refine (Word_any r A1 n c1 _ HS5.out.2.2.1).mono ?_
    rintro e w6 ⟨A6, q6, c6, rfl, hq6, o6, hb6⟩
    have HS6 := Lib.hid (HS5.out.past hb6)
    have HAB6 := Lib.hid (And.intro (HA5.out.past hb6) (HB4.out.past hb6))
    have HO6 := Lib.hid o6.has
    have HQ6 := Lib.hid hq6
    clear hb6 x0 x1 x2 o6 hq6
    obtain ⟨x0, x1, x2, -, -, -⟩ := HS6.out.2.2.2.1.three
    go_wp2_with fail
    refine (rWord_any r A n c _ HS6.out.2.1).mono ?_
    rintro e w7 ⟨A7, q7, c7, rfl, hq7, o7, hb7⟩
    obtain rfl : q7 = q6 := hq7.trans HQ6.out.symm
    have HS7 := Lib.hid (HS6.out.past hb7)
    have HAB7 := Lib.hid (And.intro (HAB6.out.1.past hb7) (HAB6.out.2.past hb7))
    have HO7 := Lib.hid (And.intro (HO6.out.below hb7 (Nat.le_refl _)) o7.has)
    clear hb7 x0 x1 x2 o7 hq7
    go_wp2_with fail
    refine (Deep_any m p _ m1 m2).mono ?_
    rintro e w8 ⟨rfl, hb8⟩
    have HS8 := Lib.hid (HS7.out.past hb8)
    have HAB8 := Lib.hid (And.intro (HAB7.out.1.past hb8) (HAB7.out.2.past hb8))
    have HO8 := Lib.hid (And.intro (HO7.out.1.below hb8 (Nat.le_refl _)) (HO7.out.2.below hb8 (Nat.le_refl _)))
    clear hb8
    go_wp2_with fail
    refine (rDeep_any m p _ m1 m2).mono ?_
    rintro e w9 ⟨rfl, rfl⟩
    generalize dpV m p = dv at *
    generalize dpE p = de at *
    obtain ⟨x0, x1, x2, -, -, -⟩ := HS8.out.2.2.2.2.three
    go_wp2_with fail
    refine (Recent_any r A1 n c1 _ HS8.out.2.2.1).mono ?_
    rintro e w9 ⟨rfl, hb9⟩
    have HS9 := Lib.hid (HS8.out.past hb9)
    have HAB9 := Lib.hid (And.intro (HAB8.out.1.past hb9) (HAB8.out.2.past hb9))
    have HO9 := Lib.hid (And.intro (HO8.out.1.below hb9 (Nat.le_refl _)) (HO8.out.2.below hb9 (Nat.le_refl _)))
    clear hb9 x0 x1 x2
    obtain ⟨x0, x1, x2, -, -, -⟩ := HS9.out.2.2.2.1.three
    go_wp2_with fail
    refine (rRecent_any r A n c _ HS9.out.2.1).mono ?_
    rintro e w10 ⟨rfl, hb10⟩
    have HS10 := Lib.hid (HS9.out.past hb10)
    have HAB10 := Lib.hid (And.intro (HAB9.out.1.past hb10) (HAB9.out.2.past hb10))
    have HO10 := Lib.hid (And.intro (HO9.out.1.below hb10 (Nat.le_refl _)) (HO9.out.2.below hb10 (Nat.le_refl _)))
    clear hb10 x0 x1 x2
    generalize rc1 r 1 = y1 at *
    generalize rc1 r 2 = y2 at *
    generalize rgE r = ge at *
    obtain ⟨x0, x1, x2, -, -, -⟩ := HS10.out.2.2.2.1.three
    obtain ⟨u0, u1, u2, -, -, -⟩ := HS10.out.2.2.2.2.three
    obtain ⟨v0, v1, v2, v3, v4, v5⟩ := six HAB10.out.1
    obtain ⟨z0, z1, z2, z3, z4, z5⟩ := six HAB10.out.2
    have cv1 := conv8 (n := q7) (c := c6) HO10.out.1 HQ6.out.symm
    have cv2 := conv8 (n := q7) (c := c7) HO10.out.2 HQ6.out.symm
    generalize bstr (wdV r) = bw at *
    have heq := HEQ.out
    go_wp2_with fail
    refine (rSame_any r r A1 A n n c1 c _ HS10.out.2.2.1.h H.out.e HS10.out.2.1.h H.out.e HM.out HM.out).mono ?_
    rintro e w11 ⟨rfl, hb11⟩
    rw [sameB_self]
    go_wp2_with fail
    go_ret
    exact ⟨rfl, by have := HS10.out.1; (repeat' (first | (with_reducible exact Below.refl _ _) | (with_reducible assumption) | (with_reducible refine below_drewN ?_ _) | (with_reducible refine below_new ?_ _) | (with_reducible refine Below.alloc ?_ ?_ _) | (with_reducible refine Below.drew ?_) | (with_reducible refine Below.setCell ?_ ?_ _) | (with_reducible apply below_at; (case k => (with_reducible assumption)); (case hB => omega)) | (with_reducible apply below_on; (with_reducible assumption)) | (go_size; done) | (with_reducible apply size_of)))⟩
end Go.Proofs.YtpggdijhfdddpaaDoor.cxW
