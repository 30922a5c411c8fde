/- FinderMakes, by a walk. -/
import Derived.Test.YtbdipdnnjbpibaaFdL
namespace Go.Proofs.Ytbdipdnnjbpibaa.fdL
open Go.RowKit Go.Proofs.Ytbdipdnnjbpibaa.base Go.Proofs.Ytbdipdnnjbpibaa.rgP Go.Proofs.Ytbdipdnnjbpibaa.fdP Go.Proofs.Ytbdipdnnjbpibaa.fdW Go.Proofs.Ytbdipdnnjbpibaa.hashW
set_option linter.unusedVariables false
set_option linter.unusedSimpArgs false

set_option maxRecDepth 100000 in
set_option maxHeartbeats 8000000 in
theorem makes (l : Int) (A : Option Addr) (n c : Nat) (f : Fnd) (x k : Int) (w : World) (l1 : -9223372036854775808 ≤ l) (l2 : l ≤ 9223372036854775807) (h : FdIn w A n c f) (x1 : 0 ≤ x) (x2 : x ≤ 4294967295) (k1 : -9223372036854775808 ≤ k) (k2 : k ≤ 9223372036854775807) :
    Calls Try.prog 4 #[.int .i64 l, .agg #[.int .i64 (f).l, .slice A n c], .int .u32 x, .int .i64 k] w fun e w' => e = .returned (.bool true) ∧ Below w.heap.size w w' := by
  have H := Lib.hid h
  have HM := Lib.hid (fin_cap h)
  by_cases hg : 8300 < n
  · have HG := Lib.hid (decide_eq_true hg)
    clear h hg
    go_enter Try.func4, Try.ntmps4
    go_wp2_with fail
    refine (rGreat_any f A n c _ HM.out).mono ?_
    rintro e w1 ⟨rfl, hb1⟩
    rw [HG.out]
    go_wp2_with fail
    go_ret
    exact ⟨rfl, by (repeat' (first | (with_reducible exact Below.refl _ _) | (with_reducible assumption) | (with_reducible refine below_drewN ?_ _) | (with_reducible refine below_new ?_ _) | (with_reducible refine Below.alloc ?_ ?_ _) | (with_reducible refine Below.drew ?_) | (with_reducible refine Below.setCell ?_ ?_ _) | (with_reducible apply below_at; (case k => (with_reducible assumption)); (case hB => omega)) | (with_reducible apply below_on; (with_reducible assumption)) | (go_size; done) | (with_reducible apply size_of)))⟩
  have HG := Lib.hid (decide_eq_false hg)
  have HN : Hid (n ≤ 8300) := Lib.hid (by omega)
  obtain ⟨fn, hfn⟩ : ∃ x, newF l = x := ⟨_, rfl⟩
  obtain ⟨ne, hne⟩ : ∃ x, newE l = x := ⟨_, rfl⟩
  obtain ⟨fp, hfp⟩ : ∃ y, fputV f x k = y := ⟨_, rfl⟩
  obtain ⟨pe, hpe⟩ : ∃ y, fputE f k = y := ⟨_, rfl⟩
  obtain ⟨fv, hfv⟩ : ∃ y, findV f x = y := ⟨_, rfl⟩
  obtain ⟨fe, hfe⟩ : ∃ y, fdE f = y := ⟨_, rfl⟩
  have HV := Lib.hid (And.intro hfn (And.intro hne (And.intro hfp (And.intro hpe (And.intro hfv hfe)))))
  clear h hg hfn hne hfp hpe hfv hfe
  go_enter Try.func4, Try.ntmps4
  go_wp2_with fail
  refine (rGreat_any f A n c _ HM.out).mono ?_
  rintro e w1 ⟨rfl, hb1⟩
  rw [HG.out]
  have K1 : Lies (w1) (w.heap.size) 24 [.int .i64 (f).l, .slice (A) (n) (c)] := by (repeat' (first | (with_reducible assumption) | (with_reducible exact Lies.fresh _ _ _) | (with_reducible apply Lies.fresh_at; (first | (with_reducible rfl) | (simp; done))) | (with_reducible refine Lies.drew ?_) | (with_reducible refine Lies.drewN ?_ _) | (with_reducible refine Lies.alloc ?_ _) | (with_reducible apply Lies.past; case hb => (with_reducible assumption)) | (with_reducible apply Lies.keeps; (case k => (with_reducible assumption)); (case ht => decide)) | (with_reducible apply Lies.store3) | (with_reducible apply Lies.other; case hp => (first | omega | (simp; done) | (simp; omega)))))
  obtain ⟨p0, p1, -, -⟩ := K1.two
  have acc1 : Below w.heap.size w w1 := by (repeat' (first | (with_reducible exact Below.refl _ _) | (with_reducible assumption) | (with_reducible refine below_drewN ?_ _) | (with_reducible refine below_new ?_ _) | (with_reducible refine Below.alloc ?_ ?_ _) | (with_reducible refine Below.drew ?_) | (with_reducible refine Below.setCell ?_ ?_ _) | (with_reducible apply below_at; (case k => (with_reducible assumption)); (case hB => omega)) | (with_reducible apply below_on; (with_reducible assumption)) | (go_size; done) | (with_reducible apply size_of)))
  have HI1 := Lib.hid (H.out.below acc1)
  have HK1 := Lib.hid K1
  clear K1 hb1
  go_wp2_with fail
  refine (Twin_any f A n c _ HI1.out.h HI1.out.e HN.out).mono ?_
  rintro e w2 ⟨A2, c2, rfl, o2, hb2⟩
  have HI2 := Lib.hid (twin_in H.out o2)
  have HI1 := Lib.hid (HI1.out.below hb2)
  have HK2 := Lib.hid (HK1.out.past hb2)
  have HA2 := Lib.hid (acc1.trans (hb2.mono acc1.size))
  clear o2 hb2 acc1 p0 p1
  go_wp2_with fail
  refine (New_any l _).mono ?_
  rintro e w3 ⟨A3, n3, c3, rfl, i3, hb3⟩
  rw [HV.out.1] at i3 ⊢
  rw [HV.out.2.1]
  have HI3 := Lib.hid i3
  have HI1 := Lib.hid (fin_step HI1.out hb3)
  have HI2 := Lib.hid (fin_step HI2.out hb3)
  have HK3 := Lib.hid (lies_step HK2.out hb3)
  have HT9 : Hid (Lies (w3) (w2.heap.size) 24 [.int .i64 (f).l, .slice (A2) (n) (c2)]) := Lib.hid ((Lies.fresh _ _ _).past hb3)
  have HA3 := Lib.hid (acc_step HA2.out hb3)
  clear i3 hb3 HK1 HK2 HA2
  go_wp2_with fail
  refine (rNew_any l _).mono ?_
  rintro e w4 ⟨A4, n4, c4, rfl, i4, hb4⟩
  rw [HV.out.1] at i4 ⊢
  rw [HV.out.2.1]
  have HI4 := Lib.hid i4
  have HI1 := Lib.hid (fin_step HI1.out hb4)
  have HI2 := Lib.hid (fin_step HI2.out hb4)
  have HI3 := Lib.hid (fin_step HI3.out hb4)
  have HK4 := Lib.hid (lies_step HK3.out hb4)
  have HT9 := Lib.hid (lies_step HT9.out hb4)
  have HT10 : Hid (Lies (w4) (w3.heap.size) 24 [.int .i64 (fn).l, .slice (A3) (n3) (c3)]) := Lib.hid ((Lies.fresh _ _ _).past hb4)
  have HA4 := Lib.hid (acc_step HA3.out hb4)
  clear i4 hb4 HK3 HA3
  obtain ⟨p0, p1, -, -⟩ := HT9.out.two
  have lt9 := HT9.out.lt
  go_wp2_with fail
  refine (Find_any f A2 n c2 x _ (HI2.out.below ((Below.refl _ _).alloc (Nat.le_refl _) _)) x1 x2).mono ?_
  rintro e w5 ⟨rfl, hb5⟩
  rw [HV.out.2.2.2.2.1, HV.out.2.2.2.2.2]
  have HI1 := Lib.hid (fin_step HI1.out hb5)
  have HI2 := Lib.hid (fin_step HI2.out hb5)
  have HI3 := Lib.hid (fin_step HI3.out hb5)
  have HI4 := Lib.hid (fin_step HI4.out hb5)
  have HK5 := Lib.hid (lies_step HK4.out hb5)
  have HT9 := Lib.hid (lies_step HT9.out hb5)
  have HT10 := Lib.hid (lies_step HT10.out hb5)
  have HT12 : Hid (Lies (w5) (w4.heap.size) 24 [.int .i64 (fn).l, .slice (A4) (n4) (c4)]) := Lib.hid ((Lies.fresh _ _ _).past hb5)
  have HA5 := Lib.hid (acc_step HA4.out hb5)
  clear hb5 HK4 HA4 p0 p1 lt9
  obtain ⟨p0, p1, -, -⟩ := HK5.out.two
  go_wp2_with fail
  refine (rFind_any f A n c x _ HI1.out x1 x2).mono ?_
  rintro e w6 ⟨rfl, hb6⟩
  rw [HV.out.2.2.2.2.1, HV.out.2.2.2.2.2]
  have HI1 := Lib.hid (HI1.out.below hb6)
  have HI2 := Lib.hid (HI2.out.below hb6)
  have HI3 := Lib.hid (HI3.out.below hb6)
  have HI4 := Lib.hid (HI4.out.below hb6)
  have HK6 := Lib.hid (HK5.out.past hb6)
  have HT9 := Lib.hid (HT9.out.past hb6)
  have HT10 := Lib.hid (HT10.out.past hb6)
  have HT12 := Lib.hid (HT12.out.past hb6)
  have HA6 := Lib.hid (HA5.out.trans (hb6.mono HA5.out.size))
  clear hb6 HK5 HA5 p0 p1
  obtain ⟨p0, p1, -, -⟩ := HT9.out.two
  go_wp2_with fail
  refine (Put_any f A2 n c2 x k _ HI2.out x1 x2).mono ?_
  rintro e w7 ⟨A7, n7, c7, rfl, i7, hb7⟩
  rw [HV.out.2.2.1] at i7 ⊢
  rw [HV.out.2.2.2.1]
  have HI7 := Lib.hid i7
  have HI1 := Lib.hid (HI1.out.below hb7)
  have HI2 := Lib.hid (HI2.out.below hb7)
  have HI3 := Lib.hid (HI3.out.below hb7)
  have HI4 := Lib.hid (HI4.out.below hb7)
  have HK7 := Lib.hid (HK6.out.past hb7)
  have HT9 := Lib.hid (HT9.out.past hb7)
  have HT10 := Lib.hid (HT10.out.past hb7)
  have HT12 := Lib.hid (HT12.out.past hb7)
  have HA7 := Lib.hid (HA6.out.trans (hb7.mono HA6.out.size))
  clear hb7 i7 HK6 HA6 p0 p1
  obtain ⟨p0, p1, -, -⟩ := HK7.out.two
  have lt7 := HK7.out.lt
  go_wp2_with fail
  refine (rPut_any f A n c x k _ (HI1.out.below ((Below.refl _ _).alloc (Nat.le_refl _) _)) x1 x2).mono ?_
  rintro e w8 ⟨A8, n8, c8, rfl, i8, hb8⟩
  rw [HV.out.2.2.1] at i8 ⊢
  rw [HV.out.2.2.2.1]
  have HI8 := Lib.hid i8
  have HI1 := Lib.hid (fin_step HI1.out hb8)
  have HI2 := Lib.hid (fin_step HI2.out hb8)
  have HI3 := Lib.hid (fin_step HI3.out hb8)
  have HI4 := Lib.hid (fin_step HI4.out hb8)
  have HI7 := Lib.hid (fin_step HI7.out hb8)
  have HK8 := Lib.hid (lies_step HK7.out hb8)
  have HT9 := Lib.hid (lies_step HT9.out hb8)
  have HT10 := Lib.hid (lies_step HT10.out hb8)
  have HT12 := Lib.hid (lies_step HT12.out hb8)
  have HT18 : Hid (Lies (w8) (w7.heap.size) 24 [.int .i64 (fp).l, .slice (A7) (n7) (c7)]) := Lib.hid ((Lies.fresh _ _ _).past hb8)
  have HA8 := Lib.hid (acc_step HA7.out hb8)
  have HCP : Hid (n3 ≤ 9223372036854775807 ∧ n4 ≤ 9223372036854775807 ∧ n7 ≤ 9223372036854775807 ∧ n8 ≤ 9223372036854775807) := Lib.hid ⟨fin_cap HI3.out, fin_cap HI4.out, fin_cap HI7.out, fin_cap i8⟩
  clear hb8 i8 HK7 HA7 p0 p1 lt7
  have lt1 := HK8.out.lt
  have lt2 := HT9.out.lt
  have lt3 := HT10.out.lt
  have lt4 := HT12.out.lt
  have lt5 := HT18.out.lt
  have HT20 : Hid (Lies (w8.alloc (.cells #[.int .i64 fp.l, .slice A8 n8 c8] 24)) (w8.heap.size) 24 [.int .i64 (fp).l, .slice (A8) (n8) (c8)]) := Lib.hid (Lies.fresh _ _ _)
  go_upto_region 10 with fail
  go_region_held3 (fun x' => (x'.cell? ⟨w.heap.size, 0, none⟩ = some (.int .i64 f.l) ∧ x'.cell? ⟨w.heap.size, 1, none⟩ = some (.slice A n c)) ∧ (x'.cell? ⟨w2.heap.size, 0, none⟩ = some (.int .i64 f.l) ∧ x'.cell? ⟨w2.heap.size, 1, none⟩ = some (.slice A2 n c2)) ∧ (x'.cell? ⟨w3.heap.size, 0, none⟩ = some (.int .i64 fn.l) ∧ x'.cell? ⟨w3.heap.size, 1, none⟩ = some (.slice A3 n3 c3)) ∧ (x'.cell? ⟨w4.heap.size, 0, none⟩ = some (.int .i64 fn.l) ∧ x'.cell? ⟨w4.heap.size, 1, none⟩ = some (.slice A4 n4 c4)) ∧ (x'.cell? ⟨w7.heap.size, 0, none⟩ = some (.int .i64 fp.l) ∧ x'.cell? ⟨w7.heap.size, 1, none⟩ = some (.slice A7 n7 c7)) ∧ (x'.cell? ⟨w8.heap.size, 0, none⟩ = some (.int .i64 fp.l) ∧ x'.cell? ⟨w8.heap.size, 1, none⟩ = some (.slice A8 n8 c8)))
    ((exact ⟨f2 (show Lies (_) (w.heap.size) 24 [.int .i64 (f).l, .slice (A) (n) (c)] from (by have := HK8.out; (repeat' (first | (with_reducible assumption) | (with_reducible exact Lies.fresh _ _ _) | (with_reducible apply Lies.fresh_at; (first | (with_reducible rfl) | (simp; done))) | (with_reducible refine Lies.drew ?_) | (with_reducible refine Lies.drewN ?_ _) | (with_reducible refine Lies.alloc ?_ _) | (with_reducible apply Lies.past; case hb => (with_reducible assumption)) | (with_reducible apply Lies.keeps; (case k => (with_reducible assumption)); (case ht => decide)) | (with_reducible apply Lies.store3) | (with_reducible apply Lies.other; case hp => (first | omega | (simp; done) | (simp; omega))))))), f2 (show Lies (_) (w2.heap.size) 24 [.int .i64 (f).l, .slice (A2) (n) (c2)] from (by have := HT9.out; (repeat' (first | (with_reducible assumption) | (with_reducible exact Lies.fresh _ _ _) | (with_reducible apply Lies.fresh_at; (first | (with_reducible rfl) | (simp; done))) | (with_reducible refine Lies.drew ?_) | (with_reducible refine Lies.drewN ?_ _) | (with_reducible refine Lies.alloc ?_ _) | (with_reducible apply Lies.past; case hb => (with_reducible assumption)) | (with_reducible apply Lies.keeps; (case k => (with_reducible assumption)); (case ht => decide)) | (with_reducible apply Lies.store3) | (with_reducible apply Lies.other; case hp => (first | omega | (simp; done) | (simp; omega))))))), f2 (show Lies (_) (w3.heap.size) 24 [.int .i64 (fn).l, .slice (A3) (n3) (c3)] from (by have := HT10.out; (repeat' (first | (with_reducible assumption) | (with_reducible exact Lies.fresh _ _ _) | (with_reducible apply Lies.fresh_at; (first | (with_reducible rfl) | (simp; done))) | (with_reducible refine Lies.drew ?_) | (with_reducible refine Lies.drewN ?_ _) | (with_reducible refine Lies.alloc ?_ _) | (with_reducible apply Lies.past; case hb => (with_reducible assumption)) | (with_reducible apply Lies.keeps; (case k => (with_reducible assumption)); (case ht => decide)) | (with_reducible apply Lies.store3) | (with_reducible apply Lies.other; case hp => (first | omega | (simp; done) | (simp; omega))))))), f2 (show Lies (_) (w4.heap.size) 24 [.int .i64 (fn).l, .slice (A4) (n4) (c4)] from (by have := HT12.out; (repeat' (first | (with_reducible assumption) | (with_reducible exact Lies.fresh _ _ _) | (with_reducible apply Lies.fresh_at; (first | (with_reducible rfl) | (simp; done))) | (with_reducible refine Lies.drew ?_) | (with_reducible refine Lies.drewN ?_ _) | (with_reducible refine Lies.alloc ?_ _) | (with_reducible apply Lies.past; case hb => (with_reducible assumption)) | (with_reducible apply Lies.keeps; (case k => (with_reducible assumption)); (case ht => decide)) | (with_reducible apply Lies.store3) | (with_reducible apply Lies.other; case hp => (first | omega | (simp; done) | (simp; omega))))))), f2 (show Lies (_) (w7.heap.size) 24 [.int .i64 (fp).l, .slice (A7) (n7) (c7)] from (by have := HT18.out; (repeat' (first | (with_reducible assumption) | (with_reducible exact Lies.fresh _ _ _) | (with_reducible apply Lies.fresh_at; (first | (with_reducible rfl) | (simp; done))) | (with_reducible refine Lies.drew ?_) | (with_reducible refine Lies.drewN ?_ _) | (with_reducible refine Lies.alloc ?_ _) | (with_reducible apply Lies.past; case hb => (with_reducible assumption)) | (with_reducible apply Lies.keeps; (case k => (with_reducible assumption)); (case ht => decide)) | (with_reducible apply Lies.store3) | (with_reducible apply Lies.other; case hp => (first | omega | (simp; done) | (simp; omega))))))), f2 (show Lies (_) (w8.heap.size) 24 [.int .i64 (fp).l, .slice (A8) (n8) (c8)] from (by have := HT20.out; (repeat' (first | (with_reducible assumption) | (with_reducible exact Lies.fresh _ _ _) | (with_reducible apply Lies.fresh_at; (first | (with_reducible rfl) | (simp; done))) | (with_reducible refine Lies.drew ?_) | (with_reducible refine Lies.drewN ?_ _) | (with_reducible refine Lies.alloc ?_ _) | (with_reducible apply Lies.past; case hb => (with_reducible assumption)) | (with_reducible apply Lies.keeps; (case k => (with_reducible assumption)); (case ht => decide)) | (with_reducible apply Lies.store3) | (with_reducible apply Lies.other; case hp => (first | omega | (simp; done) | (simp; omega)))))))⟩))
    (first
      | (go_at_call 23; with_reducible refine (rSame_any fn fn A3 A4 n3 n4 c3 c4 _ (HI3.out.below (by (repeat' (first | (with_reducible exact Below.refl _ _) | (with_reducible assumption) | (with_reducible refine below_drewN ?_ _) | (with_reducible refine below_new ?_ _) | (with_reducible refine Below.alloc ?_ ?_ _) | (with_reducible refine Below.drew ?_) | (with_reducible refine Below.setCell ?_ ?_ _) | (with_reducible apply below_at; (case k => (with_reducible assumption)); (case hB => omega)) | (with_reducible apply below_on; (with_reducible assumption)) | (go_size; done) | (with_reducible apply size_of))))).h HI3.out.e (HI4.out.below (by (repeat' (first | (with_reducible exact Below.refl _ _) | (with_reducible assumption) | (with_reducible refine below_drewN ?_ _) | (with_reducible refine below_new ?_ _) | (with_reducible refine Below.alloc ?_ ?_ _) | (with_reducible refine Below.drew ?_) | (with_reducible refine Below.setCell ?_ ?_ _) | (with_reducible apply below_at; (case k => (with_reducible assumption)); (case hB => omega)) | (with_reducible apply below_on; (with_reducible assumption)) | (go_size; done) | (with_reducible apply size_of))))).h HI4.out.e HCP.out.1 HCP.out.2.1).mono ?_; rintro e y1 ⟨rfl, hy1⟩; rw [sameF_refl])
      | (go_at_call 13; with_reducible refine (Check_any f A2 n c2 _ (HI2.out.below (by (repeat' (first | (with_reducible exact Below.refl _ _) | (with_reducible assumption) | (with_reducible refine below_drewN ?_ _) | (with_reducible refine below_new ?_ _) | (with_reducible refine Below.alloc ?_ ?_ _) | (with_reducible refine Below.drew ?_) | (with_reducible refine Below.setCell ?_ ?_ _) | (with_reducible apply below_at; (case k => (with_reducible assumption)); (case hB => omega)) | (with_reducible apply below_on; (with_reducible assumption)) | (go_size; done) | (with_reducible apply size_of)))))).mono ?_; rintro e y2 ⟨rfl, hy2⟩; rw [HV.out.2.2.2.2.2])
      | (go_at_call 24; with_reducible refine (rCheck_any f A n c _ (HI1.out.below (by (repeat' (first | (with_reducible exact Below.refl _ _) | (with_reducible assumption) | (with_reducible refine below_drewN ?_ _) | (with_reducible refine below_new ?_ _) | (with_reducible refine Below.alloc ?_ ?_ _) | (with_reducible refine Below.drew ?_) | (with_reducible refine Below.setCell ?_ ?_ _) | (with_reducible apply below_at; (case k => (with_reducible assumption)); (case hB => omega)) | (with_reducible apply below_on; (with_reducible assumption)) | (go_size; done) | (with_reducible apply size_of)))))).mono ?_; rintro e y3 ⟨rfl, hy3⟩; rw [HV.out.2.2.2.2.2])
      | (go_at_call 23; with_reducible refine (rSame_any fp fp A7 A8 n7 n8 c7 c8 _ (HI7.out.below (by (repeat' (first | (with_reducible exact Below.refl _ _) | (with_reducible assumption) | (with_reducible refine below_drewN ?_ _) | (with_reducible refine below_new ?_ _) | (with_reducible refine Below.alloc ?_ ?_ _) | (with_reducible refine Below.drew ?_) | (with_reducible refine Below.setCell ?_ ?_ _) | (with_reducible apply below_at; (case k => (with_reducible assumption)); (case hB => omega)) | (with_reducible apply below_on; (with_reducible assumption)) | (go_size; done) | (with_reducible apply size_of))))).h HI7.out.e (HI8.out.below (by (repeat' (first | (with_reducible exact Below.refl _ _) | (with_reducible assumption) | (with_reducible refine below_drewN ?_ _) | (with_reducible refine below_new ?_ _) | (with_reducible refine Below.alloc ?_ ?_ _) | (with_reducible refine Below.drew ?_) | (with_reducible refine Below.setCell ?_ ?_ _) | (with_reducible apply below_at; (case k => (with_reducible assumption)); (case hB => omega)) | (with_reducible apply below_on; (with_reducible assumption)) | (go_size; done) | (with_reducible apply size_of))))).h HI8.out.e HCP.out.2.2.1 HCP.out.2.2.2).mono ?_; rintro e y4 ⟨rfl, hy4⟩; rw [sameF_refl])
      | (go_at_call 23; with_reducible refine (rSame_any f f A2 A n n c2 c _ (HI2.out.below (by (repeat' (first | (with_reducible exact Below.refl _ _) | (with_reducible assumption) | (with_reducible refine below_drewN ?_ _) | (with_reducible refine below_new ?_ _) | (with_reducible refine Below.alloc ?_ ?_ _) | (with_reducible refine Below.drew ?_) | (with_reducible refine Below.setCell ?_ ?_ _) | (with_reducible apply below_at; (case k => (with_reducible assumption)); (case hB => omega)) | (with_reducible apply below_on; (with_reducible assumption)) | (go_size; done) | (with_reducible apply size_of))))).h HI2.out.e (HI1.out.below (by (repeat' (first | (with_reducible exact Below.refl _ _) | (with_reducible assumption) | (with_reducible refine below_drewN ?_ _) | (with_reducible refine below_new ?_ _) | (with_reducible refine Below.alloc ?_ ?_ _) | (with_reducible refine Below.drew ?_) | (with_reducible refine Below.setCell ?_ ?_ _) | (with_reducible apply below_at; (case k => (with_reducible assumption)); (case hB => omega)) | (with_reducible apply below_on; (with_reducible assumption)) | (go_size; done) | (with_reducible apply size_of))))).h HI1.out.e HM.out HM.out).mono ?_; rintro e y5 ⟨rfl, hy5⟩; rw [sameF_refl]))
  all_goals
    go_wp2_with fail
    go_ret
    exact ⟨rfl, by have := HA8.out; (repeat' (first | (with_reducible exact Below.refl _ _) | (with_reducible assumption) | (with_reducible refine below_drewN ?_ _) | (with_reducible refine below_new ?_ _) | (with_reducible refine Below.alloc ?_ ?_ _) | (with_reducible refine Below.drew ?_) | (with_reducible refine Below.setCell ?_ ?_ _) | (with_reducible apply below_at; (case k => (with_reducible assumption)); (case hB => omega)) | (with_reducible apply below_on; (with_reducible assumption)) | (go_size; done) | (with_reducible apply size_of)))⟩
end Go.Proofs.Ytbdipdnnjbpibaa.fdL
