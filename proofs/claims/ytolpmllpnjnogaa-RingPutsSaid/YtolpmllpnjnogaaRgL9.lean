/- RingPuts, by a walk. -/
import Derived.Test.YtolpmllpnjnogaaRgL8
namespace Go.Proofs.Ytolpmllpnjnogaa.rgL
open Go.RowKit Go.Proofs.Ytolpmllpnjnogaa.base Go.Proofs.Ytolpmllpnjnogaa.rgP Go.Proofs.Ytolpmllpnjnogaa.rgW
set_option linter.unusedVariables false
set_option linter.unusedSimpArgs false

set_option maxRecDepth 100000 in
set_option maxHeartbeats 8000000 in
theorem puts_main (l : Int) (A : Option Addr) (n c : Nat) (r : Rg) (D : Option Addr) (q f : Nat) (bs : List Int) (w : World) (H : Hid (RgIn w A n c r)) (HD : Hid (Has .u8 w D bs)) (HL : Hid (bs.length = q)) (HBB : Hid (∀ y ∈ bs, 0 ≤ y ∧ y ≤ 255)) (HM : Hid (n ≤ 9223372036854775807)) (HG : Hid (decide (8300 < n) = false)) (HN : Hid (n ≤ 8300)) (hqc : q ≤ 2000 ∨ 20000 < q ∧ q ≤ 20100) (hqf : q ≤ f) (hf : f ≤ 9223372036854775807) :
    Calls Try.prog 4 #[.int .i64 l, .agg #[.int .i64 (r).l, .slice A n c, .int .i64 (r).n], .slice D q f] w fun e w' => e = .returned (.bool true) ∧ Below w.heap.size w w' := by
  have HQ := Lib.hid hqc
  have HQ2 : Hid (q ≤ 20100) := Lib.hid (by omega)
  obtain ⟨rn, hrn⟩ : ∃ x, newR l = x := ⟨_, rfl⟩
  obtain ⟨ne, hne⟩ : ∃ x, newE l = x := ⟨_, rfl⟩
  obtain ⟨rp, hrp⟩ : ∃ x, putV r bs = x := ⟨_, rfl⟩
  obtain ⟨pe, hpe⟩ : ∃ x, putE r bs = x := ⟨_, rfl⟩
  have HRN := Lib.hid hrn
  have HNE := Lib.hid hne
  have HRP := Lib.hid hrp
  have HPE := Lib.hid hpe
  clear hrn hne hrp hpe hqc
  go_enter Try.func4, Try.ntmps4
  go_upto_region 1 with fail
  go_cut [35] (fun s35 wx => s35 = .bool false ∧ (Lies (wx) (w.heap.size) 24 [.int .i64 (r).l, .slice (A) (n) (c), .int .i64 (r).n]) ∧ Below w.heap.size w wx)
  case first =>
    rcases HQ.out with h1 | ⟨h1, h2⟩
    all_goals
      go_wp2_with (first | (go_at_call 17; refine (great_any r A n c _ HM.out).mono ?_; rintro e w1 ⟨rfl, hb1⟩; rw [HG.out]; have K1 : Lies (w1) (w.heap.size) 24 [.int .i64 (r).l, .slice (A) (n) (c), .int .i64 (r).n] := (by (repeat' (first | (with_reducible assumption) | (with_reducible exact Lies.fresh _ _ _) | (with_reducible apply Lies.fresh_at; (first | (with_reducible rfl) | (simp; done))) | (with_reducible refine Lies.drew ?_) | (with_reducible refine Lies.drewN ?_ _) | (with_reducible refine Lies.alloc ?_ _) | (with_reducible apply Lies.past; case hb => (with_reducible assumption)) | (with_reducible apply Lies.keeps; (case k => (with_reducible assumption)); (case ht => decide)) | (with_reducible apply Lies.store3) | (with_reducible apply Lies.other; case hp => (first | omega | (simp; done) | (simp; omega)))))); obtain ⟨p0, p1, p2, -, -, -⟩ := K1.three))
      go_meet
      exact ⟨by simp <;> omega, by (repeat' (first | (with_reducible assumption) | (with_reducible exact Lies.fresh _ _ _) | (with_reducible apply Lies.fresh_at; (first | (with_reducible rfl) | (simp; done))) | (with_reducible refine Lies.drew ?_) | (with_reducible refine Lies.drewN ?_ _) | (with_reducible refine Lies.alloc ?_ _) | (with_reducible apply Lies.past; case hb => (with_reducible assumption)) | (with_reducible apply Lies.keeps; (case k => (with_reducible assumption)); (case ht => decide)) | (with_reducible apply Lies.store3) | (with_reducible apply Lies.other; case hp => (first | omega | (simp; done) | (simp; omega))))), by (repeat' (first | (with_reducible exact Below.refl _ _) | (with_reducible assumption) | (with_reducible refine below_drewN ?_ _) | (with_reducible refine below_new ?_ _) | (with_reducible refine Below.alloc ?_ ?_ _) | (with_reducible refine Below.drew ?_) | (with_reducible refine Below.setCell ?_ ?_ _) | (with_reducible apply below_at; (case k => (with_reducible assumption)); (case hB => omega)) | (with_reducible apply below_on; (with_reducible assumption)) | (go_size; done) | (with_reducible apply size_of)))⟩
  case rest =>
    obtain ⟨rfl, K1, acc⟩ := hcut
    rename World => w1
    obtain ⟨p0, p1, p2, -, -, -⟩ := K1.three
    have lt1 := K1.lt
    have HK1 := Lib.hid K1
    clear K1
    go_wp2_with fail
    refine (Twin_any r A n c _ (H.out.below (by (repeat' (first | (with_reducible exact Below.refl _ _) | (with_reducible assumption) | (with_reducible refine below_drewN ?_ _) | (with_reducible refine below_new ?_ _) | (with_reducible refine Below.alloc ?_ ?_ _) | (with_reducible refine Below.drew ?_) | (with_reducible refine Below.setCell ?_ ?_ _) | (with_reducible apply below_at; (case k => (with_reducible assumption)); (case hB => omega)) | (with_reducible apply below_on; (with_reducible assumption)) | (go_size; done) | (with_reducible apply size_of))))).h H.out.e HN.out).mono ?_
    rintro e w3 ⟨A1, c1, rfl, o3, hb3⟩
    have HI3 := Lib.hid (twin_in H.out o3)
    have HR3 := Lib.hid (Row.of o3 H.out.e)
    have HB3 : Hid (w.heap.size ≤ w1.heap.size ∧ w1.heap.size ≤ w3.heap.size ∧ w.heap.size < w1.heap.size) := Lib.hid ⟨acc.size, hb3.size, lt1⟩
    have acc3 : Below w.heap.size w w3 := by (repeat' (first | (with_reducible exact Below.refl _ _) | (with_reducible assumption) | (with_reducible refine below_drewN ?_ _) | (with_reducible refine below_new ?_ _) | (with_reducible refine Below.alloc ?_ ?_ _) | (with_reducible refine Below.drew ?_) | (with_reducible refine Below.setCell ?_ ?_ _) | (with_reducible apply below_at; (case k => (with_reducible assumption)); (case hB => omega)) | (with_reducible apply below_on; (with_reducible assumption)) | (go_size; done) | (with_reducible apply size_of)))
    have HK3 := Lib.hid (HK1.out.past hb3)
    clear acc o3 hb3 p0 p1 p2
    go_wp2_with (at_builtin; refine clone8 rfl _ _ rfl _ rfl D _ _ bs rfl HL.out (HD.out.below (by (repeat' (first | (with_reducible exact Below.refl _ _) | (with_reducible assumption) | (with_reducible refine below_drewN ?_ _) | (with_reducible refine below_new ?_ _) | (with_reducible refine Below.alloc ?_ ?_ _) | (with_reducible refine Below.drew ?_) | (with_reducible refine Below.setCell ?_ ?_ _) | (with_reducible apply below_at; (case k => (with_reducible assumption)); (case hB => omega)) | (with_reducible apply below_on; (with_reducible assumption)) | (go_size; done) | (with_reducible apply size_of)))) (Nat.le_refl _)) (by have := HQ2.out; omega) ?_; intro A2 c2 w4 hh4 hb4 ho4)
    have HR4 : Hid (Row w4 w3.heap.size w4.heap.size A2 q c2 bs) := Lib.hid ((Row.of (clone_z HL.out ho4) HL.out).mono (by simp) (Nat.le_refl _))
    have HI4 := Lib.hid hh4
    have HR3 : Hid (Row w4 w1.heap.size w3.heap.size A1 n c1 r.b) := Lib.hid (HR3.out.step hb4)
    have HI3 : Hid (RgIn w4 A1 n c1 r) := Lib.hid (in_step HI3.out hb4)
    have HK4 := Lib.hid (lies_step HK3.out hb4)
    have HA4 := Lib.hid (acc_step acc3 hb4)
    have HS4 := Lib.hid (size_step hb4)
    clear ho4 hh4 acc3 hb4 HK3
    go_wp2_with fail
    refine (New_any l _).mono ?_
    rintro e w5 ⟨A5, n5, c5, rfl, i5, -, hb5⟩
    rw [HRN.out] at i5 ⊢
    rw [HNE.out]
    have HI5 := Lib.hid i5
    have HR4 := Lib.hid (HR4.out.step hb5)
    have HI4 := Lib.hid (has_step HI4.out hb5)
    have HR3 := Lib.hid (HR3.out.step hb5)
    have HI3 := Lib.hid (in_step HI3.out hb5)
    have HK5 := Lib.hid (lies_step HK4.out hb5)
    have HT7 : Hid (Lies (w5) (w4.heap.size) 24 [.int .i64 (r).l, .slice (A1) (n) (c1), .int .i64 (r).n]) := Lib.hid ((Lies.fresh _ _ _).past hb5)
    have HA5 := Lib.hid (acc_step HA4.out hb5)
    have HS5 := Lib.hid (size_step hb5)
    clear i5 hb5 HK4 HA4
    go_wp2_with fail
    refine (rNew_any l _).mono ?_
    rintro e w6 ⟨A6, n6, c6, rfl, i6, -, hb6⟩
    rw [HRN.out] at i6 ⊢
    rw [HNE.out]
    have HI6 := Lib.hid i6
    have HR4 := Lib.hid (HR4.out.step hb6)
    have HI4 := Lib.hid (has_step HI4.out hb6)
    have HR3 := Lib.hid (HR3.out.step hb6)
    have HI3 := Lib.hid (in_step HI3.out hb6)
    have HI5 := Lib.hid (in_step HI5.out hb6)
    have HK6 := Lib.hid (lies_step HK5.out hb6)
    have HT7 := Lib.hid (lies_step HT7.out hb6)
    have HT9 : Hid (Lies (w6) (w5.heap.size) 24 [.int .i64 (rn).l, .slice (A5) (n5) (c5), .int .i64 (rn).n]) := Lib.hid ((Lies.fresh _ _ _).past hb6)
    have HA6 := Lib.hid (acc_step HA5.out hb6)
    have HS6 := Lib.hid (size_step hb6)
    clear i6 hb6 HK5 HA5
    obtain ⟨t0, t1, t2, -, -, -⟩ := HT7.out.three
    have lt7 := HT7.out.lt
    go_wp2_with fail
    refine (Put_any r A1 A2 n c1 q c2 bs _ (HI3.out.below (by (repeat' (first | (with_reducible exact Below.refl _ _) | (with_reducible assumption) | (with_reducible refine below_drewN ?_ _) | (with_reducible refine below_new ?_ _) | (with_reducible refine Below.alloc ?_ ?_ _) | (with_reducible refine Below.drew ?_) | (with_reducible refine Below.setCell ?_ ?_ _) | (with_reducible apply below_at; (case k => (with_reducible assumption)); (case hB => omega)) | (with_reducible apply below_on; (with_reducible assumption)) | (go_size; done) | (with_reducible apply size_of))))) (has_alloc HI4.out _) HL.out (by have := HQ2.out; omega) HBB.out).mono ?_
    rintro e w7 ⟨A7, n7, c7, rfl, i7, o7, hb7⟩
    rw [HRP.out] at i7 o7 ⊢
    rw [HPE.out]
    have HI7 := Lib.hid i7
    have HR7 : Hid (Row w7 w6.heap.size w7.heap.size A7 n7 c7 rp.b) := Lib.hid ((Row.of o7 i7.e).mono (by simp) (Nat.le_refl _))
    have HR4 := Lib.hid (HR4.out.step hb7)
    have HR3 := Lib.hid (HR3.out.step hb7)
    have HI3 := Lib.hid (in_step HI3.out hb7)
    have HI5 := Lib.hid (in_step HI5.out hb7)
    have HI6 := Lib.hid (in_step HI6.out hb7)
    have HK7 := Lib.hid (lies_step HK6.out hb7)
    have HT7 := Lib.hid (lies_step HT7.out hb7)
    have HT9 := Lib.hid (lies_step HT9.out hb7)
    have HT11 : Hid (Lies (w7) (w6.heap.size) 24 [.int .i64 (rn).l, .slice (A6) (n6) (c6), .int .i64 (rn).n]) := Lib.hid ((Lies.fresh _ _ _).past hb7)
    have HA7 := Lib.hid (acc_step HA6.out hb7)
    have HS7 := Lib.hid (size_step hb7)
    clear i7 o7 hb7 HK6 HA6 t0 t1 t2 lt7 HI4
    obtain ⟨t0, t1, t2, -, -, -⟩ := HK7.out.three
    have lt7 := HK7.out.lt
    go_wp2_with fail
    refine (rPut_any r A D n c q f bs _ (H.out.below (HA7.out.alloc HA7.out.size _)) (HD.out.below (HA7.out.alloc HA7.out.size _) (Nat.le_refl _)) HL.out (by omega) HBB.out).mono ?_
    rintro e w8 ⟨A8, n8, c8, rfl, i8, o8, hb8⟩
    rw [HRP.out] at i8 o8 ⊢
    rw [HPE.out]
    have HI8 := Lib.hid i8
    have HR8 : Hid (Row w8 w7.heap.size w8.heap.size A8 n8 c8 rp.b) := Lib.hid ((Row.of o8 i8.e).mono (by simp) (Nat.le_refl _))
    have HR7 := Lib.hid (HR7.out.step hb8)
    have HI7 := Lib.hid (in_step HI7.out hb8)
    have HR4 := Lib.hid (HR4.out.step hb8)
    have HR3 := Lib.hid (HR3.out.step hb8)
    have HI3 := Lib.hid (in_step HI3.out hb8)
    have HI5 := Lib.hid (in_step HI5.out hb8)
    have HI6 := Lib.hid (in_step HI6.out hb8)
    have HK8 := Lib.hid (lies_step HK7.out hb8)
    have HT7 := Lib.hid (lies_step HT7.out hb8)
    have HT9 := Lib.hid (lies_step HT9.out hb8)
    have HT11 := Lib.hid (lies_step HT11.out hb8)
    have HT13 : Hid (Lies (w8) (w7.heap.size) 24 [.int .i64 (rp).l, .slice (A7) (n7) (c7), .int .i64 (rp).n]) := Lib.hid ((Lies.fresh _ _ _).past hb8)
    have HA8 := Lib.hid (acc_step HA7.out hb8)
    have HS8 := Lib.hid (size_step hb8)
    clear i8 o8 hb8 HK7 HA7 t0 t1 t2 lt7
    have HI0 : Hid (RgIn w8 A n c r) := Lib.hid (H.out.below HA8.out)
    have HSM : Hid (n5 ≤ 9223372036854775807 ∧ n6 ≤ 9223372036854775807) := Lib.hid ⟨by have := HI5.out.c1; have := HI5.out.c2; omega, by have := HI6.out.c1; have := HI6.out.c2; omega⟩
    go_upto_region 8 with fail
    go_cut [84] (fun s84 wx => s84 = .bool false ∧ Below w8.heap.size w8 wx ∧ Lies wx w8.heap.size 24 [.int .i64 rp.l, .slice A8 n8 c8, .int .i64 rp.n])
    case first =>
      have lt1 := HK8.out.lt
      have lt2 := HT7.out.lt
      have lt3 := HT9.out.lt
      have lt4 := HT11.out.lt
      go_region_held3 (fun x' => (x'.cell? ⟨w.heap.size, 0, none⟩ = some (.int .i64 r.l) ∧ x'.cell? ⟨w.heap.size, 1, none⟩ = some (.slice A n c) ∧ x'.cell? ⟨w.heap.size, 2, none⟩ = some (.int .i64 r.n)) ∧ (x'.cell? ⟨w4.heap.size, 0, none⟩ = some (.int .i64 r.l) ∧ x'.cell? ⟨w4.heap.size, 1, none⟩ = some (.slice A1 n c1) ∧ x'.cell? ⟨w4.heap.size, 2, none⟩ = some (.int .i64 r.n)) ∧ (x'.cell? ⟨w5.heap.size, 0, none⟩ = some (.int .i64 rn.l) ∧ x'.cell? ⟨w5.heap.size, 1, none⟩ = some (.slice A5 n5 c5) ∧ x'.cell? ⟨w5.heap.size, 2, none⟩ = some (.int .i64 rn.n)) ∧ (x'.cell? ⟨w6.heap.size, 0, none⟩ = some (.int .i64 rn.l) ∧ x'.cell? ⟨w6.heap.size, 1, none⟩ = some (.slice A6 n6 c6) ∧ x'.cell? ⟨w6.heap.size, 2, none⟩ = some (.int .i64 rn.n)))
        ((exact ⟨y3 (show Lies (_) (w.heap.size) 24 [.int .i64 (r).l, .slice (A) (n) (c), .int .i64 (r).n] from (by have := HK8.out; (repeat' (first | (with_reducible assumption) | (with_reducible exact Lies.fresh _ _ _) | (with_reducible apply Lies.fresh_at; (first | (with_reducible rfl) | (simp; done))) | (with_reducible refine Lies.drew ?_) | (with_reducible refine Lies.drewN ?_ _) | (with_reducible refine Lies.alloc ?_ _) | (with_reducible apply Lies.past; case hb => (with_reducible assumption)) | (with_reducible apply Lies.keeps; (case k => (with_reducible assumption)); (case ht => decide)) | (with_reducible apply Lies.store3) | (with_reducible apply Lies.other; case hp => (first | omega | (simp; done) | (simp; omega))))))), y3 (show Lies (_) (w4.heap.size) 24 [.int .i64 (r).l, .slice (A1) (n) (c1), .int .i64 (r).n] from (by have := HT7.out; (repeat' (first | (with_reducible assumption) | (with_reducible exact Lies.fresh _ _ _) | (with_reducible apply Lies.fresh_at; (first | (with_reducible rfl) | (simp; done))) | (with_reducible refine Lies.drew ?_) | (with_reducible refine Lies.drewN ?_ _) | (with_reducible refine Lies.alloc ?_ _) | (with_reducible apply Lies.past; case hb => (with_reducible assumption)) | (with_reducible apply Lies.keeps; (case k => (with_reducible assumption)); (case ht => decide)) | (with_reducible apply Lies.store3) | (with_reducible apply Lies.other; case hp => (first | omega | (simp; done) | (simp; omega))))))), y3 (show Lies (_) (w5.heap.size) 24 [.int .i64 (rn).l, .slice (A5) (n5) (c5), .int .i64 (rn).n] from (by have := HT9.out; (repeat' (first | (with_reducible assumption) | (with_reducible exact Lies.fresh _ _ _) | (with_reducible apply Lies.fresh_at; (first | (with_reducible rfl) | (simp; done))) | (with_reducible refine Lies.drew ?_) | (with_reducible refine Lies.drewN ?_ _) | (with_reducible refine Lies.alloc ?_ _) | (with_reducible apply Lies.past; case hb => (with_reducible assumption)) | (with_reducible apply Lies.keeps; (case k => (with_reducible assumption)); (case ht => decide)) | (with_reducible apply Lies.store3) | (with_reducible apply Lies.other; case hp => (first | omega | (simp; done) | (simp; omega))))))), y3 (show Lies (_) (w6.heap.size) 24 [.int .i64 (rn).l, .slice (A6) (n6) (c6), .int .i64 (rn).n] from (by have := HT11.out; (repeat' (first | (with_reducible assumption) | (with_reducible exact Lies.fresh _ _ _) | (with_reducible apply Lies.fresh_at; (first | (with_reducible rfl) | (simp; done))) | (with_reducible refine Lies.drew ?_) | (with_reducible refine Lies.drewN ?_ _) | (with_reducible refine Lies.alloc ?_ _) | (with_reducible apply Lies.past; case hb => (with_reducible assumption)) | (with_reducible apply Lies.keeps; (case k => (with_reducible assumption)); (case ht => decide)) | (with_reducible apply Lies.store3) | (with_reducible apply Lies.other; case hp => (first | omega | (simp; done) | (simp; omega)))))))⟩))
        (first
          | (go_at_call 14; with_reducible refine (Check_any r A1 n c1 _ (HI3.out.below (by (repeat' (first | (with_reducible exact Below.refl _ _) | (with_reducible assumption) | (with_reducible refine below_drewN ?_ _) | (with_reducible refine below_new ?_ _) | (with_reducible refine Below.alloc ?_ ?_ _) | (with_reducible refine Below.drew ?_) | (with_reducible refine Below.setCell ?_ ?_ _) | (with_reducible apply below_at; (case k => (with_reducible assumption)); (case hB => omega)) | (with_reducible apply below_on; (with_reducible assumption)) | (go_size; done) | (with_reducible apply size_of)))))).mono ?_; rintro e x1 ⟨rfl, hx1⟩)
          | (go_at_call 21; with_reducible refine (rCheck_any r A n c _ (HI0.out.below (by (repeat' (first | (with_reducible exact Below.refl _ _) | (with_reducible assumption) | (with_reducible refine below_drewN ?_ _) | (with_reducible refine below_new ?_ _) | (with_reducible refine Below.alloc ?_ ?_ _) | (with_reducible refine Below.drew ?_) | (with_reducible refine Below.setCell ?_ ?_ _) | (with_reducible apply below_at; (case k => (with_reducible assumption)); (case hB => omega)) | (with_reducible apply below_on; (with_reducible assumption)) | (go_size; done) | (with_reducible apply size_of)))))).mono ?_; rintro e x2 ⟨rfl, hx2⟩)
          | (go_at_call 22; with_reducible refine (rSame_any rn rn A5 A6 n5 n6 c5 c6 _ (HI5.out.below (by (repeat' (first | (with_reducible exact Below.refl _ _) | (with_reducible assumption) | (with_reducible refine below_drewN ?_ _) | (with_reducible refine below_new ?_ _) | (with_reducible refine Below.alloc ?_ ?_ _) | (with_reducible refine Below.drew ?_) | (with_reducible refine Below.setCell ?_ ?_ _) | (with_reducible apply below_at; (case k => (with_reducible assumption)); (case hB => omega)) | (with_reducible apply below_on; (with_reducible assumption)) | (go_size; done) | (with_reducible apply size_of))))).h HI5.out.e (HI6.out.below (by (repeat' (first | (with_reducible exact Below.refl _ _) | (with_reducible assumption) | (with_reducible refine below_drewN ?_ _) | (with_reducible refine below_new ?_ _) | (with_reducible refine Below.alloc ?_ ?_ _) | (with_reducible refine Below.drew ?_) | (with_reducible refine Below.setCell ?_ ?_ _) | (with_reducible apply below_at; (case k => (with_reducible assumption)); (case hB => omega)) | (with_reducible apply below_on; (with_reducible assumption)) | (go_size; done) | (with_reducible apply size_of))))).h HI6.out.e HSM.out.1 HSM.out.2).mono ?_; rintro e x3 ⟨rfl, hx3⟩; rw [sameB_refl])
          | (go_at_call 22; with_reducible refine (rSame_any r r A1 A n n c1 c _ (HI3.out.below (by (repeat' (first | (with_reducible exact Below.refl _ _) | (with_reducible assumption) | (with_reducible refine below_drewN ?_ _) | (with_reducible refine below_new ?_ _) | (with_reducible refine Below.alloc ?_ ?_ _) | (with_reducible refine Below.drew ?_) | (with_reducible refine Below.setCell ?_ ?_ _) | (with_reducible apply below_at; (case k => (with_reducible assumption)); (case hB => omega)) | (with_reducible apply below_on; (with_reducible assumption)) | (go_size; done) | (with_reducible apply size_of))))).h HI3.out.e (HI0.out.below (by (repeat' (first | (with_reducible exact Below.refl _ _) | (with_reducible assumption) | (with_reducible refine below_drewN ?_ _) | (with_reducible refine below_new ?_ _) | (with_reducible refine Below.alloc ?_ ?_ _) | (with_reducible refine Below.drew ?_) | (with_reducible refine Below.setCell ?_ ?_ _) | (with_reducible apply below_at; (case k => (with_reducible assumption)); (case hB => omega)) | (with_reducible apply below_on; (with_reducible assumption)) | (go_size; done) | (with_reducible apply size_of))))).h HI0.out.e HM.out HM.out).mono ?_; rintro e x4 ⟨rfl, hx4⟩; rw [sameB_refl]))
      all_goals
        go_wp2_with fail
        go_meet
        exact ⟨rfl, by (repeat' (first | (with_reducible exact Below.refl _ _) | (with_reducible assumption) | (with_reducible refine below_drewN ?_ _) | (with_reducible refine below_new ?_ _) | (with_reducible refine Below.alloc ?_ ?_ _) | (with_reducible refine Below.drew ?_) | (with_reducible refine Below.setCell ?_ ?_ _) | (with_reducible apply below_at; (case k => (with_reducible assumption)); (case hB => omega)) | (with_reducible apply below_on; (with_reducible assumption)) | (go_size; done) | (with_reducible apply size_of))), by (repeat' (first | (with_reducible assumption) | (with_reducible exact Lies.fresh _ _ _) | (with_reducible apply Lies.fresh_at; (first | (with_reducible rfl) | (simp; done))) | (with_reducible refine Lies.drew ?_) | (with_reducible refine Lies.drewN ?_ _) | (with_reducible refine Lies.alloc ?_ _) | (with_reducible apply Lies.past; case hb => (with_reducible assumption)) | (with_reducible apply Lies.keeps; (case k => (with_reducible assumption)); (case ht => decide)) | (with_reducible apply Lies.store3) | (with_reducible apply Lies.other; case hp => (first | omega | (simp; done) | (simp; omega)))))⟩
    case rest =>
      obtain ⟨rfl, b9, T15⟩ := hcut
      rename World => w9
      have HT15 := Lib.hid T15
      have HT7 := Lib.hid (HT7.out.past b9)
      have HT13 := Lib.hid (HT13.out.past b9)
      have HR3 := Lib.hid (HR3.out.below b9)
      have HR4 := Lib.hid (HR4.out.below b9)
      have HR7 := Lib.hid (HR7.out.below b9)
      have HR8 := Lib.hid (HR8.out.below b9)
      have HI7 := Lib.hid (HI7.out.below b9)
      have HI8 := Lib.hid (HI8.out.below b9)
      have HA9 := Lib.hid (HA8.out.trans (b9.mono HA8.out.size))
      have HSZ : Hid (w.heap.size < w1.heap.size ∧ w1.heap.size ≤ w3.heap.size ∧ w3.heap.size ≤ w4.heap.size ∧ w4.heap.size < w5.heap.size ∧ w5.heap.size < w6.heap.size ∧ w6.heap.size < w7.heap.size ∧ w7.heap.size < w8.heap.size ∧ w8.heap.size < w9.heap.size) := Lib.hid ⟨HB3.out.2.2, HB3.out.2.1, Nat.le_of_lt HS4.out, HS5.out, HS6.out, HS7.out, HS8.out, T15.lt⟩
      clear b9 T15
      obtain ⟨t0, t1, t2, -, -, -⟩ := HT7.out.three
      go_wp2_with fail
      have hs := HSZ.out
      clear t0 t1 t2
      go_loopw [17] (fun i wr => ∃ (k : Nat) (zs : List Int), k ≤ n ∧ i = .int .i64 (k : Int) ∧ zs.length = n ∧ Row wr w1.heap.size w3.heap.size A1 n c1 zs ∧ (Lies (wr) (w4.heap.size) 24 [.int .i64 (r).l, .slice (A1) (n) (c1), .int .i64 (r).n]) ∧ (Lies (wr) (w7.heap.size) 24 [.int .i64 (rp).l, .slice (A7) (n7) (c7), .int .i64 (rp).n]) ∧ (Lies (wr) (w8.heap.size) 24 [.int .i64 (rp).l, .slice (A8) (n8) (c8), .int .i64 (rp).n]) ∧ Row wr w6.heap.size w7.heap.size A7 n7 c7 rp.b ∧ Row wr w7.heap.size w8.heap.size A8 n8 c8 rp.b ∧ Row wr w3.heap.size w4.heap.size A2 q c2 bs ∧ Below w.heap.size w wr) (fun i _ => n - (intOf i).toNat)
      case atStart => exact ⟨0, r.b, Nat.zero_le _, rfl, H.out.e, HR3.out, HT7.out, HT13.out, HT15.out, HR7.out, HR8.out, HR4.out, HA9.out⟩
      case round =>
        obtain ⟨k, zs, hk, rfl, hz, hr3, h7, h13, h15, hr7, hr8, hr4, acc⟩ := hrel
        have HT7 := Lib.hid h7
        have HT13 := Lib.hid h13
        have HT15 := Lib.hid h15
        have HR7 := Lib.hid hr7
        have HR8 := Lib.hid hr8
        have HR4 := Lib.hid hr4
        have HAC := Lib.hid acc
        obtain ⟨t0, t1, t2, -, -, -⟩ := h7.three
        have n1 := HN.out
        by_cases hlt : k < n
        · obtain ⟨g, rfl, g1, g2, -, o⟩ : ∃ g, A1 = some ⟨g, 0, none⟩ ∧ w1.heap.size ≤ g ∧ g < w3.heap.size ∧ zs.length = n ∧ OwnI _ w1.heap.size 5 .u8 (.slice (some ⟨g, 0, none⟩) n c1) zs := by
            rcases hr3 with ⟨h0, _⟩ | h0
            · omega
            · exact h0
          have HO := Lib.hid o
          have hc := o.cell k (by omega)
          have hf := o.frozen k
          obtain ⟨x, hx⟩ : ∃ x, zs.getD k 0 = x := ⟨_, rfl⟩
          rw [hx] at hc
          have k1 : (k : Int) < n := by omega
          have k0 : (0 : Int) ≤ k := by omega
          have n2 : (n : Int) ≤ 8300 := by omega
          have HLT := Lib.hid hlt
          have HZ := Lib.hid hz
          have HG1 := Lib.hid (And.intro g1 g2)
          clear h7 h13 h15 hr7 hr8 hr4 acc hr3 o hx hlt hk hz g1 g2 n1 hs
          go_wp2_with fail
          go_roundw
          case rel =>
            have hs := HSZ.out
            have hg := HG1.out
            refine ⟨k + 1, zs.set k _, HLT.out, by go_num, by rw [List.length_set]; exact HZ.out, .inr ⟨g, rfl, hg.1, hg.2, by rw [List.length_set]; exact HZ.out, HO.out.store k _⟩, HT7.out.other (by show g ≠ w4.heap.size; omega) _, HT13.out.other (by show g ≠ w7.heap.size; omega) _, HT15.out.other (by show g ≠ w8.heap.size; omega) _, HR7.out.set (by show g < w6.heap.size ∨ _; omega) _, HR8.out.set (by show g < w7.heap.size ∨ _; omega) _, HR4.out.set (by show g < w3.heap.size ∨ _; omega) _, Below.setCell HAC.out (by show w.heap.size ≤ g; omega) _⟩
          case measure => simp [intOf]; have := HLT.out; omega
        · have he : k = n := by omega
          subst he
          clear h7 h13 h15 hr7 hr8 hr4 acc hr3 hlt hk hz n1 hs HT7
          go_wp2_with fail
          go_loopw [18] (fun i wr => ∃ (j : Nat) (zs : List Int), j ≤ q ∧ i = .int .i64 (j : Int) ∧ zs.length = q ∧ Row wr w3.heap.size w4.heap.size A2 q c2 zs ∧ (Lies (wr) (w7.heap.size) 24 [.int .i64 (rp).l, .slice (A7) (n7) (c7), .int .i64 (rp).n]) ∧ (Lies (wr) (w8.heap.size) 24 [.int .i64 (rp).l, .slice (A8) (n8) (c8), .int .i64 (rp).n]) ∧ Row wr w6.heap.size w7.heap.size A7 n7 c7 rp.b ∧ Row wr w7.heap.size w8.heap.size A8 n8 c8 rp.b ∧ Below w.heap.size w wr) (fun i _ => q - (intOf i).toNat)
          case atStart => exact ⟨0, bs, Nat.zero_le _, rfl, HL.out, HR4.out, HT13.out, HT15.out, HR7.out, HR8.out, HAC.out⟩
          case round =>
            clear HAC HR4 HR7 HR8 HT13 HT15
            obtain ⟨j, zs, hk, rfl, hz, hr3, h13, h15, hr7, hr8, acc⟩ := hrel
            have HT13 := Lib.hid h13
            have HT15 := Lib.hid h15
            have HR7 := Lib.hid hr7
            have HR8 := Lib.hid hr8
            have HAC := Lib.hid acc
            obtain ⟨s0, s1, s2, -, -, -⟩ := h13.three
            obtain ⟨v0, v1, v2, -, -, -⟩ := h15.three
            have q1 := HQ2.out
            by_cases hlt : j < q
            · obtain ⟨g, rfl, g1, g2, -, o⟩ : ∃ g, A2 = some ⟨g, 0, none⟩ ∧ w3.heap.size ≤ g ∧ g < w4.heap.size ∧ zs.length = q ∧ OwnI _ w3.heap.size 5 .u8 (.slice (some ⟨g, 0, none⟩) q c2) zs := by
                rcases hr3 with ⟨h0, _⟩ | h0
                · omega
                · exact h0
              have HO := Lib.hid o
              have hc := o.cell j (by omega)
              have hf := o.frozen j
              obtain ⟨x, hx⟩ : ∃ x, zs.getD j 0 = x := ⟨_, rfl⟩
              rw [hx] at hc
              have k1 : (j : Int) < q := by omega
              have k0 : (0 : Int) ≤ j := by omega
              have n2 : (q : Int) ≤ 20100 := by omega
              have HLT := Lib.hid hlt
              have HZ := Lib.hid hz
              have HG1 := Lib.hid (And.intro g1 g2)
              clear h13 h15 hr7 hr8 acc hr3 o hx hlt hk hz g1 g2 q1
              go_wp2_with fail
              go_roundw
              case rel =>
                have hs := HSZ.out
                have hg := HG1.out
                refine ⟨j + 1, zs.set j _, HLT.out, by go_num, by rw [List.length_set]; exact HZ.out, .inr ⟨g, rfl, hg.1, hg.2, by rw [List.length_set]; exact HZ.out, HO.out.store j _⟩, HT13.out.other (by show g ≠ w7.heap.size; omega) _, HT15.out.other (by show g ≠ w8.heap.size; omega) _, HR7.out.set (by show g < w6.heap.size ∨ _; omega) _, HR8.out.set (by show g < w7.heap.size ∨ _; omega) _, Below.setCell HAC.out (by show w.heap.size ≤ g; omega) _⟩
              case measure => simp [intOf]; have := HLT.out; omega
            · have he : j = q := by omega
              subst he
              have HMM : Hid (n7 ≤ 9223372036854775807 ∧ n8 ≤ 9223372036854775807) := Lib.hid ⟨by have := HI7.out.c1; have := HI7.out.c2; omega, by have := HI8.out.c1; have := HI8.out.c2; omega⟩
              clear h13 h15 hr7 hr8 acc hr3 hlt hk hz q1
              go_wp2_with (go_at_call 22; with_reducible refine (rSame_any rp rp A7 A8 n7 n8 c7 c8 _ HR7.out.has HI7.out.e HR8.out.has HI8.out.e HMM.out.1 HMM.out.2).mono ?_; rintro e wy ⟨rfl, hby⟩; rw [sameB_refl])
              go_ret
              exact ⟨rfl, HAC.out.trans (hby.mono HAC.out.size)⟩
set_option maxHeartbeats 4000000 in
theorem puts_law (l : Int) (A : Option Addr) (n c : Nat) (r : Rg) (D : Option Addr) (q f : Nat) (z : List Int) (w : World) (l1 : -9223372036854775808 ≤ l) (l2 : l ≤ 9223372036854775807) (h : RgIn w A n c r) (hrow : IsRow .u8 w D q f z) :
    Calls Try.prog 4 #[.int .i64 l, .agg #[.int .i64 (r).l, .slice A n c, .int .i64 (r).n], .slice D q f] w fun e w' => e = .returned (.bool true) ∧ Below w.heap.size w w' := by
  obtain ⟨hD, hL, hmm, hbb⟩ := has_of_row hrow
  have hmd := row_caps hrow
  unfold maxLen at hmm hmd
  obtain ⟨bs, hbs⟩ : ∃ bs, z.take q = bs := ⟨_, rfl⟩
  rw [hbs] at hD hL hbb
  have HBB : Hid (∀ y ∈ bs, 0 ≤ y ∧ y ≤ 255) := Lib.hid (fun y hy => bounds_u8 (hbb y hy))
  have HD := Lib.hid hD
  have HL := Lib.hid hL
  have H := Lib.hid h
  have HM : Hid (n ≤ 9223372036854775807) := Lib.hid (by have := h.c1; have := h.c2; omega)
  clear hrow hbs hbb hD hL
  by_cases hg : 8300 < n
  · have HG := Lib.hid (decide_eq_true hg)
    clear h hg hmd
    go_enter Try.func4, Try.ntmps4
    go_wp2_with (first | (go_at_call 17; refine (great_any r A n c _ HM.out).mono ?_; rintro e w1 ⟨rfl, hb1⟩; rw [HG.out]; have K1 : Lies (w1) (w.heap.size) 24 [.int .i64 (r).l, .slice (A) (n) (c), .int .i64 (r).n] := (by (repeat' (first | (with_reducible assumption) | (with_reducible exact Lies.fresh _ _ _) | (with_reducible apply Lies.fresh_at; (first | (with_reducible rfl) | (simp; done))) | (with_reducible refine Lies.drew ?_) | (with_reducible refine Lies.drewN ?_ _) | (with_reducible refine Lies.alloc ?_ _) | (with_reducible apply Lies.past; case hb => (with_reducible assumption)) | (with_reducible apply Lies.keeps; (case k => (with_reducible assumption)); (case ht => decide)) | (with_reducible apply Lies.store3) | (with_reducible apply Lies.other; case hp => (first | omega | (simp; done) | (simp; omega)))))); obtain ⟨p0, p1, p2, -, -, -⟩ := K1.three))
    go_ret
    exact ⟨rfl, by (repeat' (first | (with_reducible exact Below.refl _ _) | (with_reducible assumption) | (with_reducible refine below_drewN ?_ _) | (with_reducible refine below_new ?_ _) | (with_reducible refine Below.alloc ?_ ?_ _) | (with_reducible refine Below.drew ?_) | (with_reducible refine Below.setCell ?_ ?_ _) | (with_reducible apply below_at; (case k => (with_reducible assumption)); (case hB => omega)) | (with_reducible apply below_on; (with_reducible assumption)) | (go_size; done) | (with_reducible apply size_of)))⟩
  have HG := Lib.hid (decide_eq_false hg)
  by_cases c1 : 2000 < q ∧ q ≤ 20000
  · obtain ⟨c1, c2⟩ := c1
    have c3 : (2000 : Int) < q := by omega
    have c4 : (q : Int) ≤ 20000 := by omega
    clear h hg hmd
    go_enter Try.func4, Try.ntmps4
    go_wp2_with (first | (go_at_call 17; refine (great_any r A n c _ HM.out).mono ?_; rintro e w1 ⟨rfl, hb1⟩; rw [HG.out]; have K1 : Lies (w1) (w.heap.size) 24 [.int .i64 (r).l, .slice (A) (n) (c), .int .i64 (r).n] := (by (repeat' (first | (with_reducible assumption) | (with_reducible exact Lies.fresh _ _ _) | (with_reducible apply Lies.fresh_at; (first | (with_reducible rfl) | (simp; done))) | (with_reducible refine Lies.drew ?_) | (with_reducible refine Lies.drewN ?_ _) | (with_reducible refine Lies.alloc ?_ _) | (with_reducible apply Lies.past; case hb => (with_reducible assumption)) | (with_reducible apply Lies.keeps; (case k => (with_reducible assumption)); (case ht => decide)) | (with_reducible apply Lies.store3) | (with_reducible apply Lies.other; case hp => (first | omega | (simp; done) | (simp; omega)))))); obtain ⟨p0, p1, p2, -, -, -⟩ := K1.three))
    go_ret
    exact ⟨rfl, by (repeat' (first | (with_reducible exact Below.refl _ _) | (with_reducible assumption) | (with_reducible refine below_drewN ?_ _) | (with_reducible refine below_new ?_ _) | (with_reducible refine Below.alloc ?_ ?_ _) | (with_reducible refine Below.drew ?_) | (with_reducible refine Below.setCell ?_ ?_ _) | (with_reducible apply below_at; (case k => (with_reducible assumption)); (case hB => omega)) | (with_reducible apply below_on; (with_reducible assumption)) | (go_size; done) | (with_reducible apply size_of)))⟩
  by_cases c2 : 20100 < q
  · have c3 : (2000 : Int) < q := by omega
    have c4 : ¬ (q : Int) ≤ 20000 := by omega
    have c5 : (20100 : Int) < q := by omega
    clear h hg hmd
    go_enter Try.func4, Try.ntmps4
    go_wp2_with (first | (go_at_call 17; refine (great_any r A n c _ HM.out).mono ?_; rintro e w1 ⟨rfl, hb1⟩; rw [HG.out]; have K1 : Lies (w1) (w.heap.size) 24 [.int .i64 (r).l, .slice (A) (n) (c), .int .i64 (r).n] := (by (repeat' (first | (with_reducible assumption) | (with_reducible exact Lies.fresh _ _ _) | (with_reducible apply Lies.fresh_at; (first | (with_reducible rfl) | (simp; done))) | (with_reducible refine Lies.drew ?_) | (with_reducible refine Lies.drewN ?_ _) | (with_reducible refine Lies.alloc ?_ _) | (with_reducible apply Lies.past; case hb => (with_reducible assumption)) | (with_reducible apply Lies.keeps; (case k => (with_reducible assumption)); (case ht => decide)) | (with_reducible apply Lies.store3) | (with_reducible apply Lies.other; case hp => (first | omega | (simp; done) | (simp; omega)))))); obtain ⟨p0, p1, p2, -, -, -⟩ := K1.three))
    go_ret
    exact ⟨rfl, by (repeat' (first | (with_reducible exact Below.refl _ _) | (with_reducible assumption) | (with_reducible refine below_drewN ?_ _) | (with_reducible refine below_new ?_ _) | (with_reducible refine Below.alloc ?_ ?_ _) | (with_reducible refine Below.drew ?_) | (with_reducible refine Below.setCell ?_ ?_ _) | (with_reducible apply below_at; (case k => (with_reducible assumption)); (case hB => omega)) | (with_reducible apply below_on; (with_reducible assumption)) | (go_size; done) | (with_reducible apply size_of)))⟩
  exact puts_main l A n c r D q f bs w H HD HL HBB HM HG (Lib.hid (by omega)) (by omega) hmd.1 hmd.2
end Go.Proofs.Ytolpmllpnjnogaa.rgL
