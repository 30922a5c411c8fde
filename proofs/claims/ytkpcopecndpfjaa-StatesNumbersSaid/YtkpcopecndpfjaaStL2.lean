/- StatesNumbers, StatesRuns, by walks. -/
import Derived.Test.YtkpcopecndpfjaaStL
namespace Go.Proofs.Ytkpcopecndpfjaa.stL
open Go.RowKit Go.Proofs.Ytkpcopecndpfjaa.base Go.Proofs.Ytkpcopecndpfjaa.cntP Go.Proofs.Ytkpcopecndpfjaa.stP Go.Proofs.Ytkpcopecndpfjaa.cntW Go.Proofs.Ytkpcopecndpfjaa.stW
set_option linter.unusedVariables false
set_option linter.unusedSimpArgs false
set_option maxHeartbeats 4000000 in
theorem numbers_ok (a b l a' b' l' : Int) (w : World) (h1 : ok ⟨a, b, l⟩ = true) (h2 : ok ⟨a', b', l'⟩ = true)
    (hcase : (a = a' ∧ b = b' ∧ l = l') ∨ ((a == a') = false ∧ (sOf ⟨a, b, l⟩ == sOf ⟨a', b', l'⟩) = false) ∨ (a = a' ∧ (b == b') = false ∧ (sOf ⟨a, b, l⟩ == sOf ⟨a', b', l'⟩) = false) ∨ (a = a' ∧ b = b' ∧ (l == l') = false ∧ (sOf ⟨a, b, l⟩ == sOf ⟨a', b', l'⟩) = false)) :
    Calls Try.prog 14 #[.agg #[.int .i32 (a), .int .i32 (b), .int .u8 (l)], .agg #[.int .i32 (a'), .int .i32 (b'), .int .u8 (l')]] w fun e w' => e = .returned (.bool true) ∧ Below w.heap.size w w' := by
  have hc := cin' h1
  have hd := cin' h2
  have r1 : numV ⟨a, b, l⟩ = sOf ⟨a, b, l⟩ := by rw [numV, if_pos h1]
  have r2 : numV ⟨a', b', l'⟩ = sOf ⟨a', b', l'⟩ := by rw [numV, if_pos h2]
  have r3 : cntC (sOf ⟨a, b, l⟩) = ⟨a, b, l⟩ := by rw [cntC, if_pos (sOf_bd h1).2, sBack_sOf h1]
  have r4 : cntE (sOf ⟨a, b, l⟩) = 0 := by rw [cntE, if_pos (sOf_bd h1).2]
  obtain ⟨t1, t2⟩ := sOf_bd h1
  obtain ⟨u1, u2⟩ := sOf_bd h2
  have R1 := Lib.hid r1
  have R2 := Lib.hid r2
  have R3 := Lib.hid r3
  have R4 := Lib.hid r4
  have E1 := Lib.hid (chk_yes h1)
  have E2 := Lib.hid (chk_yes h2)
  clear r1 r2 r3 r4 h1 h2
  rcases hcase with ⟨rfl, rfl, rfl⟩ | ⟨z1, z2⟩ | ⟨rfl, z1, z2⟩ | ⟨rfl, rfl, z1, z2⟩
  · generalize sOf ⟨a, b, l⟩ = s at *
    have t3 : s ≤ 255 := by omega
    go_enter Try.func14, Try.ntmps14
    go_wp2_with fail
    refine (Number_any ⟨a, b, l⟩ _ hc).mono ?_
    rintro e w1 ⟨rfl, hb1⟩
    rw [R1.out, E1.out]
    have HA1 : Hid (Lies w1 (w.heap.size) 23 [.int .i32 a, .int .i32 b, .int .u8 l]) := Lib.hid (by (repeat' (first | (with_reducible assumption) | (with_reducible exact Lies.fresh _ _ _) | (with_reducible apply Lies.fresh_at; (first | (with_reducible rfl) | (simp; done))) | (with_reducible refine Lies.drew ?_) | (with_reducible refine Lies.drewN ?_ _) | (with_reducible refine Lies.alloc ?_ _) | (with_reducible apply Lies.past; case hb => (with_reducible assumption)) | (with_reducible apply Lies.store3) | (with_reducible apply Lies.other; case hp => (first | omega | (simp; done) | (simp; omega))))))
    have HB1 : Hid (Lies w1 (w.heap.size + 1) 23 [.int .i32 a, .int .i32 b, .int .u8 l]) := Lib.hid (by (repeat' (first | (with_reducible assumption) | (with_reducible exact Lies.fresh _ _ _) | (with_reducible apply Lies.fresh_at; (first | (with_reducible rfl) | (simp; done))) | (with_reducible refine Lies.drew ?_) | (with_reducible refine Lies.drewN ?_ _) | (with_reducible refine Lies.alloc ?_ _) | (with_reducible apply Lies.past; case hb => (with_reducible assumption)) | (with_reducible apply Lies.store3) | (with_reducible apply Lies.other; case hp => (first | omega | (simp; done) | (simp; omega))))))
    obtain ⟨b0, b1, b2, g0, g1, g2⟩ := HB1.out.three
    have lb := HB1.out.lt
    go_wp2_with fail
    refine (Number_any ⟨a, b, l⟩ _ hd).mono ?_
    rintro e w2 ⟨rfl, hb2⟩
    rw [R2.out, E2.out]
    have HA2 := Lib.hid (HA1.out.past hb2)
    have HB2 := Lib.hid (HB1.out.past hb2)
    obtain ⟨a0, a1, a2, f0, f1, f2⟩ := Lies.three HA2.out; have la := Lies.lt HA2.out
    go_wp2_with fail
    refine (rcheck_any ⟨a, b, l⟩ _ hc).mono ?_
    rintro e w3 ⟨rfl, hb3⟩
    rw [E1.out]
    have HA3 := Lib.hid (HA2.out.past hb3)
    have HB3 := Lib.hid (HB2.out.past hb3)
    obtain ⟨b0, b1, b2, g0, g1, g2⟩ := HB3.out.three
    have lb := HB3.out.lt
    go_wp2_with fail
    refine (rcheck_any ⟨a, b, l⟩ _ hd).mono ?_
    rintro e w4 ⟨rfl, hb4⟩
    rw [E2.out]
    have HA4 := Lib.hid (HA3.out.past hb4)
    have HB4 := Lib.hid (HB3.out.past hb4)
    go_wp2_with fail
    refine (Count_any s _ t1 t3).mono ?_
    rintro e w5 ⟨rfl, hb5⟩
    rw [R3.out, R4.out]
    have HA5 := Lib.hid (HA4.out.past hb5)
    have HB5 := Lib.hid (HB4.out.past hb5)
    obtain ⟨a0, a1, a2, f0, f1, f2⟩ := Lies.three HA5.out; have la := Lies.lt HA5.out
    obtain ⟨b0, b1, b2, g0, g1, g2⟩ := HB5.out.three
    have lb := HB5.out.lt
    go_wp2_with (first | (go_at_call 33; refine (Size_any _).mono ?_; rintro e w' ⟨rfl, rfl⟩) | (go_at_call 34; refine (alive _).mono ?_; rintro e w' ⟨rfl, hb6⟩))
    go_ret
    exact ⟨rfl, by (repeat' (first | (with_reducible exact Below.refl _ _) | (with_reducible assumption) | (with_reducible refine below_drewN ?_ _) | (with_reducible refine below_new ?_ _) | (with_reducible refine Below.alloc ?_ ?_ _) | (with_reducible refine Below.drew ?_) | (with_reducible refine Below.setCell ?_ ?_ _) | (with_reducible apply below_on; (with_reducible assumption)) | (go_size; done) | (with_reducible apply size_of)))⟩
  · generalize sOf ⟨a, b, l⟩ = s at *
    generalize sOf ⟨a', b', l'⟩ = t at *
    have t3 : s ≤ 255 := by omega
    go_enter Try.func14, Try.ntmps14
    go_wp2_with fail
    refine (Number_any ⟨a, b, l⟩ _ hc).mono ?_
    rintro e w1 ⟨rfl, hb1⟩
    rw [R1.out, E1.out]
    have HA1 : Hid (Lies w1 (w.heap.size) 23 [.int .i32 a, .int .i32 b, .int .u8 l]) := Lib.hid (by (repeat' (first | (with_reducible assumption) | (with_reducible exact Lies.fresh _ _ _) | (with_reducible apply Lies.fresh_at; (first | (with_reducible rfl) | (simp; done))) | (with_reducible refine Lies.drew ?_) | (with_reducible refine Lies.drewN ?_ _) | (with_reducible refine Lies.alloc ?_ _) | (with_reducible apply Lies.past; case hb => (with_reducible assumption)) | (with_reducible apply Lies.store3) | (with_reducible apply Lies.other; case hp => (first | omega | (simp; done) | (simp; omega))))))
    have HB1 : Hid (Lies w1 (w.heap.size + 1) 23 [.int .i32 a', .int .i32 b', .int .u8 l']) := Lib.hid (by (repeat' (first | (with_reducible assumption) | (with_reducible exact Lies.fresh _ _ _) | (with_reducible apply Lies.fresh_at; (first | (with_reducible rfl) | (simp; done))) | (with_reducible refine Lies.drew ?_) | (with_reducible refine Lies.drewN ?_ _) | (with_reducible refine Lies.alloc ?_ _) | (with_reducible apply Lies.past; case hb => (with_reducible assumption)) | (with_reducible apply Lies.store3) | (with_reducible apply Lies.other; case hp => (first | omega | (simp; done) | (simp; omega))))))
    obtain ⟨b0, b1, b2, g0, g1, g2⟩ := HB1.out.three
    have lb := HB1.out.lt
    go_wp2_with fail
    refine (Number_any ⟨a', b', l'⟩ _ hd).mono ?_
    rintro e w2 ⟨rfl, hb2⟩
    rw [R2.out, E2.out]
    have HA2 := Lib.hid (HA1.out.past hb2)
    have HB2 := Lib.hid (HB1.out.past hb2)
    obtain ⟨a0, a1, a2, f0, f1, f2⟩ := Lies.three HA2.out; have la := Lies.lt HA2.out
    go_wp2_with fail
    refine (rcheck_any ⟨a, b, l⟩ _ hc).mono ?_
    rintro e w3 ⟨rfl, hb3⟩
    rw [E1.out]
    have HA3 := Lib.hid (HA2.out.past hb3)
    have HB3 := Lib.hid (HB2.out.past hb3)
    obtain ⟨b0, b1, b2, g0, g1, g2⟩ := HB3.out.three
    have lb := HB3.out.lt
    go_wp2_with fail
    refine (rcheck_any ⟨a', b', l'⟩ _ hd).mono ?_
    rintro e w4 ⟨rfl, hb4⟩
    rw [E2.out]
    have HA4 := Lib.hid (HA3.out.past hb4)
    have HB4 := Lib.hid (HB3.out.past hb4)
    go_wp2_with fail
    refine (Count_any s _ t1 t3).mono ?_
    rintro e w5 ⟨rfl, hb5⟩
    rw [R3.out, R4.out]
    have HA5 := Lib.hid (HA4.out.past hb5)
    have HB5 := Lib.hid (HB4.out.past hb5)
    obtain ⟨a0, a1, a2, f0, f1, f2⟩ := Lies.three HA5.out; have la := Lies.lt HA5.out
    obtain ⟨b0, b1, b2, g0, g1, g2⟩ := HB5.out.three
    have lb := HB5.out.lt
    go_wp2_with (first | (go_at_call 33; refine (Size_any _).mono ?_; rintro e w' ⟨rfl, rfl⟩) | (go_at_call 34; refine (alive _).mono ?_; rintro e w' ⟨rfl, hb6⟩))
    go_ret
    exact ⟨rfl, by (repeat' (first | (with_reducible exact Below.refl _ _) | (with_reducible assumption) | (with_reducible refine below_drewN ?_ _) | (with_reducible refine below_new ?_ _) | (with_reducible refine Below.alloc ?_ ?_ _) | (with_reducible refine Below.drew ?_) | (with_reducible refine Below.setCell ?_ ?_ _) | (with_reducible apply below_on; (with_reducible assumption)) | (go_size; done) | (with_reducible apply size_of)))⟩
  · generalize sOf ⟨a, b, l⟩ = s at *
    generalize sOf ⟨a, b', l'⟩ = t at *
    have t3 : s ≤ 255 := by omega
    go_enter Try.func14, Try.ntmps14
    go_wp2_with fail
    refine (Number_any ⟨a, b, l⟩ _ hc).mono ?_
    rintro e w1 ⟨rfl, hb1⟩
    rw [R1.out, E1.out]
    have HA1 : Hid (Lies w1 (w.heap.size) 23 [.int .i32 a, .int .i32 b, .int .u8 l]) := Lib.hid (by (repeat' (first | (with_reducible assumption) | (with_reducible exact Lies.fresh _ _ _) | (with_reducible apply Lies.fresh_at; (first | (with_reducible rfl) | (simp; done))) | (with_reducible refine Lies.drew ?_) | (with_reducible refine Lies.drewN ?_ _) | (with_reducible refine Lies.alloc ?_ _) | (with_reducible apply Lies.past; case hb => (with_reducible assumption)) | (with_reducible apply Lies.store3) | (with_reducible apply Lies.other; case hp => (first | omega | (simp; done) | (simp; omega))))))
    have HB1 : Hid (Lies w1 (w.heap.size + 1) 23 [.int .i32 a, .int .i32 b', .int .u8 l']) := Lib.hid (by (repeat' (first | (with_reducible assumption) | (with_reducible exact Lies.fresh _ _ _) | (with_reducible apply Lies.fresh_at; (first | (with_reducible rfl) | (simp; done))) | (with_reducible refine Lies.drew ?_) | (with_reducible refine Lies.drewN ?_ _) | (with_reducible refine Lies.alloc ?_ _) | (with_reducible apply Lies.past; case hb => (with_reducible assumption)) | (with_reducible apply Lies.store3) | (with_reducible apply Lies.other; case hp => (first | omega | (simp; done) | (simp; omega))))))
    obtain ⟨b0, b1, b2, g0, g1, g2⟩ := HB1.out.three
    have lb := HB1.out.lt
    go_wp2_with fail
    refine (Number_any ⟨a, b', l'⟩ _ hd).mono ?_
    rintro e w2 ⟨rfl, hb2⟩
    rw [R2.out, E2.out]
    have HA2 := Lib.hid (HA1.out.past hb2)
    have HB2 := Lib.hid (HB1.out.past hb2)
    obtain ⟨a0, a1, a2, f0, f1, f2⟩ := Lies.three HA2.out; have la := Lies.lt HA2.out
    go_wp2_with fail
    refine (rcheck_any ⟨a, b, l⟩ _ hc).mono ?_
    rintro e w3 ⟨rfl, hb3⟩
    rw [E1.out]
    have HA3 := Lib.hid (HA2.out.past hb3)
    have HB3 := Lib.hid (HB2.out.past hb3)
    obtain ⟨b0, b1, b2, g0, g1, g2⟩ := HB3.out.three
    have lb := HB3.out.lt
    go_wp2_with fail
    refine (rcheck_any ⟨a, b', l'⟩ _ hd).mono ?_
    rintro e w4 ⟨rfl, hb4⟩
    rw [E2.out]
    have HA4 := Lib.hid (HA3.out.past hb4)
    have HB4 := Lib.hid (HB3.out.past hb4)
    go_wp2_with fail
    refine (Count_any s _ t1 t3).mono ?_
    rintro e w5 ⟨rfl, hb5⟩
    rw [R3.out, R4.out]
    have HA5 := Lib.hid (HA4.out.past hb5)
    have HB5 := Lib.hid (HB4.out.past hb5)
    obtain ⟨a0, a1, a2, f0, f1, f2⟩ := Lies.three HA5.out; have la := Lies.lt HA5.out
    obtain ⟨b0, b1, b2, g0, g1, g2⟩ := HB5.out.three
    have lb := HB5.out.lt
    go_wp2_with (first | (go_at_call 33; refine (Size_any _).mono ?_; rintro e w' ⟨rfl, rfl⟩) | (go_at_call 34; refine (alive _).mono ?_; rintro e w' ⟨rfl, hb6⟩))
    go_ret
    exact ⟨rfl, by (repeat' (first | (with_reducible exact Below.refl _ _) | (with_reducible assumption) | (with_reducible refine below_drewN ?_ _) | (with_reducible refine below_new ?_ _) | (with_reducible refine Below.alloc ?_ ?_ _) | (with_reducible refine Below.drew ?_) | (with_reducible refine Below.setCell ?_ ?_ _) | (with_reducible apply below_on; (with_reducible assumption)) | (go_size; done) | (with_reducible apply size_of)))⟩
  · generalize sOf ⟨a, b, l⟩ = s at *
    generalize sOf ⟨a, b, l'⟩ = t at *
    have t3 : s ≤ 255 := by omega
    go_enter Try.func14, Try.ntmps14
    go_wp2_with fail
    refine (Number_any ⟨a, b, l⟩ _ hc).mono ?_
    rintro e w1 ⟨rfl, hb1⟩
    rw [R1.out, E1.out]
    have HA1 : Hid (Lies w1 (w.heap.size) 23 [.int .i32 a, .int .i32 b, .int .u8 l]) := Lib.hid (by (repeat' (first | (with_reducible assumption) | (with_reducible exact Lies.fresh _ _ _) | (with_reducible apply Lies.fresh_at; (first | (with_reducible rfl) | (simp; done))) | (with_reducible refine Lies.drew ?_) | (with_reducible refine Lies.drewN ?_ _) | (with_reducible refine Lies.alloc ?_ _) | (with_reducible apply Lies.past; case hb => (with_reducible assumption)) | (with_reducible apply Lies.store3) | (with_reducible apply Lies.other; case hp => (first | omega | (simp; done) | (simp; omega))))))
    have HB1 : Hid (Lies w1 (w.heap.size + 1) 23 [.int .i32 a, .int .i32 b, .int .u8 l']) := Lib.hid (by (repeat' (first | (with_reducible assumption) | (with_reducible exact Lies.fresh _ _ _) | (with_reducible apply Lies.fresh_at; (first | (with_reducible rfl) | (simp; done))) | (with_reducible refine Lies.drew ?_) | (with_reducible refine Lies.drewN ?_ _) | (with_reducible refine Lies.alloc ?_ _) | (with_reducible apply Lies.past; case hb => (with_reducible assumption)) | (with_reducible apply Lies.store3) | (with_reducible apply Lies.other; case hp => (first | omega | (simp; done) | (simp; omega))))))
    obtain ⟨b0, b1, b2, g0, g1, g2⟩ := HB1.out.three
    have lb := HB1.out.lt
    go_wp2_with fail
    refine (Number_any ⟨a, b, l'⟩ _ hd).mono ?_
    rintro e w2 ⟨rfl, hb2⟩
    rw [R2.out, E2.out]
    have HA2 := Lib.hid (HA1.out.past hb2)
    have HB2 := Lib.hid (HB1.out.past hb2)
    obtain ⟨a0, a1, a2, f0, f1, f2⟩ := Lies.three HA2.out; have la := Lies.lt HA2.out
    go_wp2_with fail
    refine (rcheck_any ⟨a, b, l⟩ _ hc).mono ?_
    rintro e w3 ⟨rfl, hb3⟩
    rw [E1.out]
    have HA3 := Lib.hid (HA2.out.past hb3)
    have HB3 := Lib.hid (HB2.out.past hb3)
    obtain ⟨b0, b1, b2, g0, g1, g2⟩ := HB3.out.three
    have lb := HB3.out.lt
    go_wp2_with fail
    refine (rcheck_any ⟨a, b, l'⟩ _ hd).mono ?_
    rintro e w4 ⟨rfl, hb4⟩
    rw [E2.out]
    have HA4 := Lib.hid (HA3.out.past hb4)
    have HB4 := Lib.hid (HB3.out.past hb4)
    go_wp2_with fail
    refine (Count_any s _ t1 t3).mono ?_
    rintro e w5 ⟨rfl, hb5⟩
    rw [R3.out, R4.out]
    have HA5 := Lib.hid (HA4.out.past hb5)
    have HB5 := Lib.hid (HB4.out.past hb5)
    obtain ⟨a0, a1, a2, f0, f1, f2⟩ := Lies.three HA5.out; have la := Lies.lt HA5.out
    obtain ⟨b0, b1, b2, g0, g1, g2⟩ := HB5.out.three
    have lb := HB5.out.lt
    go_wp2_with (first | (go_at_call 33; refine (Size_any _).mono ?_; rintro e w' ⟨rfl, rfl⟩) | (go_at_call 34; refine (alive _).mono ?_; rintro e w' ⟨rfl, hb6⟩))
    go_ret
    exact ⟨rfl, by (repeat' (first | (with_reducible exact Below.refl _ _) | (with_reducible assumption) | (with_reducible refine below_drewN ?_ _) | (with_reducible refine below_new ?_ _) | (with_reducible refine Below.alloc ?_ ?_ _) | (with_reducible refine Below.drew ?_) | (with_reducible refine Below.setCell ?_ ?_ _) | (with_reducible apply below_on; (with_reducible assumption)) | (go_size; done) | (with_reducible apply size_of)))⟩
set_option maxHeartbeats 1000000 in
theorem numbers_bad (c d : Cnt) (w : World) (hc : CntIn c) (hd : CntIn d) (h : ok c = false ∨ ok c = true ∧ ok d = false) :
    Calls Try.prog 14 #[.agg #[.int .i32 (c).a, .int .i32 (c).b, .int .u8 (c).l], .agg #[.int .i32 (d).a, .int .i32 (d).b, .int .u8 (d).l]] w fun e w' => e = .returned (.bool true) ∧ Below w.heap.size w w' := by
  have hcd : (chk c = 8 ∧ chk d = 0) ∨ (chk c = 8 ∧ chk d = 8) ∨ (chk c = 0 ∧ chk d = 8) := by
    rcases h with h | ⟨h, h'⟩
    · cases hd' : ok d
      · exact .inr (.inl ⟨chk_no h, chk_no hd'⟩)
      · exact .inl ⟨chk_no h, chk_yes hd'⟩
    · exact .inr (.inr ⟨chk_yes h, chk_no h'⟩)
  rcases hcd with ⟨e1, e2⟩ | ⟨e1, e2⟩ | ⟨e1, e2⟩
  all_goals
    have E1 := Lib.hid e1
    have E2 := Lib.hid e2
    clear e1 e2 h
    go_enter Try.func14, Try.ntmps14
    go_wp2_with fail
    refine (Number_any c _ hc).mono ?_
    rintro e w1 ⟨rfl, hb1⟩
    rw [E1.out]
    have HA1 : Hid (Lies w1 (w.heap.size) 23 [.int .i32 (c).a, .int .i32 (c).b, .int .u8 (c).l]) := Lib.hid (by (repeat' (first | (with_reducible assumption) | (with_reducible exact Lies.fresh _ _ _) | (with_reducible apply Lies.fresh_at; (first | (with_reducible rfl) | (simp; done))) | (with_reducible refine Lies.drew ?_) | (with_reducible refine Lies.drewN ?_ _) | (with_reducible refine Lies.alloc ?_ _) | (with_reducible apply Lies.past; case hb => (with_reducible assumption)) | (with_reducible apply Lies.store3) | (with_reducible apply Lies.other; case hp => (first | omega | (simp; done) | (simp; omega))))))
    have HB1 : Hid (Lies w1 (w.heap.size + 1) 23 [.int .i32 (d).a, .int .i32 (d).b, .int .u8 (d).l]) := Lib.hid (by (repeat' (first | (with_reducible assumption) | (with_reducible exact Lies.fresh _ _ _) | (with_reducible apply Lies.fresh_at; (first | (with_reducible rfl) | (simp; done))) | (with_reducible refine Lies.drew ?_) | (with_reducible refine Lies.drewN ?_ _) | (with_reducible refine Lies.alloc ?_ _) | (with_reducible apply Lies.past; case hb => (with_reducible assumption)) | (with_reducible apply Lies.store3) | (with_reducible apply Lies.other; case hp => (first | omega | (simp; done) | (simp; omega))))))
    obtain ⟨b0, b1, b2, g0, g1, g2⟩ := HB1.out.three
    have lb := HB1.out.lt
    go_wp2_with fail
    refine (Number_any d _ hd).mono ?_
    rintro e w2 ⟨rfl, hb2⟩
    rw [E2.out]
    have HA2 := Lib.hid (HA1.out.past hb2)
    have HB2 := Lib.hid (HB1.out.past hb2)
    obtain ⟨a0, a1, a2, f0, f1, f2⟩ := Lies.three HA2.out; have la := Lies.lt HA2.out
    go_wp2_with fail
    refine (rcheck_any c _ hc).mono ?_
    rintro e w3 ⟨rfl, hb3⟩
    rw [E1.out]
    have HB3 := Lib.hid (HB2.out.past hb3)
    obtain ⟨b0, b1, b2, g0, g1, g2⟩ := HB3.out.three
    have lb := HB3.out.lt
    go_wp2_with fail
    refine (rcheck_any d _ hd).mono ?_
    rintro e w4 ⟨rfl, hb4⟩
    rw [E2.out]
    go_wp2_with (first | (go_at_call 34; refine (alive _).mono ?_; rintro e w' ⟨rfl, hb6⟩))
    go_ret
    exact ⟨rfl, by (repeat' (first | (with_reducible exact Below.refl _ _) | (with_reducible assumption) | (with_reducible refine below_drewN ?_ _) | (with_reducible refine below_new ?_ _) | (with_reducible refine Below.alloc ?_ ?_ _) | (with_reducible refine Below.drew ?_) | (with_reducible refine Below.setCell ?_ ?_ _) | (with_reducible apply below_on; (with_reducible assumption)) | (go_size; done) | (with_reducible apply size_of)))⟩
theorem numbers (c d : Cnt) (w : World) (hc : CntIn c) (hd : CntIn d) :
    Calls Try.prog 14 #[.agg #[.int .i32 (c).a, .int .i32 (c).b, .int .u8 (c).l], .agg #[.int .i32 (d).a, .int .i32 (d).b, .int .u8 (d).l]] w fun e w' => e = .returned (.bool true) ∧ Below w.heap.size w w' := by
  cases h1 : ok c
  · exact numbers_bad c d w hc hd (.inl h1)
  · cases h2 : ok d
    · exact numbers_bad c d w hc hd (.inr ⟨h1, h2⟩)
    · obtain ⟨a, b, l⟩ := c
      obtain ⟨a', b', l'⟩ := d
      refine numbers_ok a b l a' b' l' w h1 h2 ?_
      have inj : ¬ (⟨a, b, l⟩ : Cnt) = ⟨a', b', l'⟩ → (sOf ⟨a, b, l⟩ == sOf ⟨a', b', l'⟩) = false := fun hne => by
        rw [beq_eq_false_iff_ne]; exact fun e => hne (sOf_inj h1 h2 e)
      by_cases x1 : a = a'
      · by_cases x2 : b = b'
        · by_cases x3 : l = l'
          · exact .inl ⟨x1, x2, x3⟩
          · exact .inr (.inr (.inr ⟨x1, x2, by simpa using x3, inj (by simp [x3])⟩))
        · exact .inr (.inr (.inl ⟨x1, by simpa using x2, inj (by simp [x2])⟩))
      · exact .inr (.inl ⟨by simpa using x1, inj (by simp [x1])⟩)
end Go.Proofs.Ytkpcopecndpfjaa.stL
