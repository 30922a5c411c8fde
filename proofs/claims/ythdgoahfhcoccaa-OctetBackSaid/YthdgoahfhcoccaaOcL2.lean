/- Reading moves on, by walks. -/
import Derived.Test.YthdgoahfhcoccaaOcL
import Derived.Test.YthdgoahfhcoccaaOcW8
namespace Go.Proofs.Ythdgoahfhcoccaa.ocL
open Go.RowKit Go.Proofs.Ythdgoahfhcoccaa.base Go.Proofs.Ythdgoahfhcoccaa.ocP Go.Proofs.Ythdgoahfhcoccaa.ocW
set_option linter.unusedVariables false
set_option linter.unusedSimpArgs false

theorem rdC_in {w : World} {A : Option Addr} {n d : Nat} {c : Cu} {l m : Int} (h : CuIn w A n d c) (h1 : 1 ≤ l) (h2 : l ≤ 8) {w' : World} {B : Nat} {A' : Option Addr} {n' d' : Nat} (o : OwnZ w' B (.slice A' n' d') (rdC c l m).b) (e : n' = (rdC c l m).b.length) : CuIn w' A' n' d' (rdC c l m) := by
  have hd : n' ≤ d' := by obtain ⟨_, _, e, _, h⟩ := o.val; cases e; exact h
  have ho := o.has
  unfold rdC at *
  by_cases hz : rdE c l m = 0
  · rw [if_pos hz] at *
    have hok : cuB c = true := by
      cases h' : cuB c
      · rw [rdE, if_neg (by rw [h']; decide)] at hz; simp at hz
      · rfl
    have := (cuB_iff c).1 hok
    exact ⟨by simp; omega, by simp; omega, ho, e.symm, hd, by simp at e; omega, h.b⟩
  · rw [if_neg hz] at *
    exact ⟨by simp, by simp, ho, e.symm, hd, by simp at e; omega, by simp⟩
theorem mv_facts (c : Cu) (hok : cuB c = true) (h2 : 2 ≤ (c.b.length : Int) - c.a) (hb : ∀ z ∈ c.b, 0 ≤ z ∧ z ≤ 255) : ∃ p q : Int, 0 ≤ p ∧ p ≤ 255 ∧ 0 ≤ q ∧ q ≤ 255 ∧ rdE c 1 255 = 0 ∧ rdC c 1 255 = ⟨c.b, c.a + 1⟩ ∧ rdN c 1 255 = p ∧ rdE ⟨c.b, c.a + 1⟩ 1 255 = 0 ∧ rdC ⟨c.b, c.a + 1⟩ 1 255 = ⟨c.b, c.a + 1 + 1⟩ ∧ rdN ⟨c.b, c.a + 1⟩ 1 255 = q ∧ rdE c 2 65535 = 0 ∧ rdC c 2 65535 = ⟨c.b, c.a + 2⟩ ∧ rdN c 2 65535 = p * 256 + q ∧ tkE c 2 = 0 ∧ tkC c 2 = ⟨c.b, c.a + 2⟩ ∧ tkV c 2 = [p, q] := by
  have hc := (cuB_iff c).1 hok
  have hok2 : cuB ⟨c.b, c.a + 1⟩ = true := (cuB_iff _).2 ⟨hc.1, by show 0 ≤ c.a + 1; omega, by show c.a + 1 ≤ (c.b.length : Int); omega⟩
  obtain ⟨p, q, t, hp⟩ : ∃ p q t, c.b.drop c.a.toNat = p :: q :: t := by
    have hl : (c.b.drop c.a.toNat).length ≥ 2 := by rw [List.length_drop]; omega
    match hh : c.b.drop c.a.toNat, hl with
    | p :: q :: t, _ => exact ⟨p, q, t, rfl⟩
  have hq : c.b.drop (c.a + 1).toNat = q :: t := by
    rw [show (c.a + 1).toNat = c.a.toNat + 1 by omega, ← List.drop_drop, hp]
    rfl
  have bp := hb p (List.mem_of_mem_drop (i := c.a.toNat) (by rw [hp]; simp))
  have bq := hb q (List.mem_of_mem_drop (i := c.a.toNat) (by rw [hp]; simp))
  have v1 : rdV c 1 = p := by rw [rdV, hp]; simp [valB]
  have v2 : rdV ⟨c.b, c.a + 1⟩ 1 = q := by rw [rdV, hq]; simp [valB]
  have v3 : rdV c 2 = p * 256 + q := by rw [rdV, hp]; simp [valB]
  have e1 : rdE c 1 255 = 0 := by rw [rdE, if_pos hok, if_pos (by decide), pkE, if_pos (by omega), v1, if_pos bp.2]
  have e2 : rdE ⟨c.b, c.a + 1⟩ 1 255 = 0 := by rw [rdE, if_pos hok2, if_pos (by decide), pkE, if_pos (by show 1 ≤ (c.b.length : Int) - (c.a + 1); omega), v2, if_pos bq.2]
  have e3 : rdE c 2 65535 = 0 := by rw [rdE, if_pos hok, if_pos (by decide), pkE, if_pos (by omega), v3, if_pos (by omega)]
  have e4 : tkE c 2 = 0 := by rw [tkE, if_pos hok, if_pos (by omega), if_pos (by omega)]
  exact ⟨p, q, bp.1, bp.2, bq.1, bq.2, e1, by rw [rdC, if_pos e1], by rw [rdN, if_pos e1, v1], e2, by rw [rdC, if_pos e2], by rw [rdN, if_pos e2, v2], e3, by rw [rdC, if_pos e3], by rw [rdN, if_pos e3, v3], e4, by rw [tkC, if_pos e4], by rw [tkV, if_pos e4, hp]; rfl⟩
theorem mv_short (c : Cu) (hok : cuB c = true) (h2 : (c.b.length : Int) - c.a < 2) : rdE c 2 65535 = 18 ∧ tkE c 2 = 18 ∧ ((c.b.length : Int) - c.a < 1 → rdE c 1 255 = 18) := by
  refine ⟨by rw [rdE, if_pos hok, if_pos (by decide), pkE, if_neg (by omega)], by rw [tkE, if_pos hok, if_pos (by omega), if_neg (by omega)], fun h => by rw [rdE, if_pos hok, if_pos (by decide), pkE, if_neg (by omega)]⟩
theorem mv_one (c : Cu) (hok : cuB c = true) (h2 : 1 ≤ (c.b.length : Int) - c.a) (hb : ∀ z ∈ c.b, 0 ≤ z ∧ z ≤ 255) : rdE c 1 255 = 0 := by
  have hc := (cuB_iff c).1 hok
  have hv : rdV c 1 ≤ 255 := by
    have := valB_bd (bs := c.b.drop c.a.toNat) (fun z hz => hb z (List.mem_of_mem_drop hz)) 1 (by rw [List.length_drop]; omega)
    have e : rdV c 1 = valB ((c.b.drop c.a.toNat).take 1) := rfl
    rw [e]
    omega
  rw [rdE, if_pos hok, if_pos (by decide), pkE, if_pos h2, if_pos hv]
theorem sm_one (c : Cu) : (decide (c.a + 1 + 1 = c.a + 2) && decide (c.b = c.b)) = true := by rw [decide_eq_true (show c.a + 1 + 1 = c.a + 2 by omega), decide_eq_true (show c.b = c.b from rfl)]; rfl
theorem sm_two (c : Cu) : decide (c.b = c.b) = true := decide_eq_true rfl
set_option maxHeartbeats 4000000 in
theorem moves (A : Option Addr) (n d : Nat) (c : Cu) (w : World) (h : CuIn w A n d c) :
    Calls Try.prog 7 #[.agg #[.slice A n d, .int .i64 (c).a]] w fun e w' => e = .returned (.bool true) ∧ Below w.heap.size w w' := by
  have H := Lib.hid h
  have n9 : (n : Int) ≤ 9223372036854775807 := by have := h.c2; omega
  by_cases hn : (n : Int) ≤ 2000
  · cases hok : cuB c
    · have HE : Hid (cuE c = 8) := Lib.hid (by rw [cuE, if_neg (by rw [hok]; decide)])
      clear h hok
      go_enter Try.func7, Try.ntmps7
      go_wp2_with fail
      refine (rCheck_any c A n d _ (H.out.below (by (repeat' (first | (with_reducible exact Below.refl _ _) | (with_reducible assumption) | (with_reducible refine below_drewN ?_ _) | (with_reducible refine below_new ?_ _) | (with_reducible refine Below.alloc ?_ ?_ _) | (with_reducible refine Below.drew ?_) | (with_reducible refine Below.setCell ?_ ?_ _) | (with_reducible apply below_at; (case k => (with_reducible assumption)); (case hB => omega)) | (with_reducible apply below_on; (with_reducible assumption)) | (go_size; done) | (with_reducible apply size_of)))))).mono ?_
      rintro e w1 ⟨rfl, hb1⟩
      rw [HE.out]
      go_wp2_with (first | (go_at_call 18; refine (alive _).mono ?_; rintro e w3 ⟨rfl, hb3⟩))
      go_ret
      exact ⟨rfl, by (repeat' (first | (with_reducible exact Below.refl _ _) | (with_reducible assumption) | (with_reducible refine below_drewN ?_ _) | (with_reducible refine below_new ?_ _) | (with_reducible refine Below.alloc ?_ ?_ _) | (with_reducible refine Below.drew ?_) | (with_reducible refine Below.setCell ?_ ?_ _) | (with_reducible apply below_at; (case k => (with_reducible assumption)); (case hB => omega)) | (with_reducible apply below_on; (with_reducible assumption)) | (go_size; done) | (with_reducible apply size_of)))⟩
    · have HE : Hid (cuE c = 0) := Lib.hid (by rw [cuE, if_pos hok])
      have HL := Lib.hid h.e
      have hbd := (cuB_iff c).1 hok
      have g1 : 0 ≤ c.a := by omega
      have g2 : c.a ≤ n := by have := h.e; omega
      clear hbd
      by_cases hs : (n : Int) - c.a < 2
      · have HM := Lib.hid (mv_short c hok (by rw [h.e]; exact hs))
        by_cases h1 : (n : Int) - c.a < 1
        · have HR : Hid (rdE c 1 255 = 18) := Lib.hid (HM.out.2.2 (by rw [h.e]; exact h1))
          have hb3 : ((n : Int) - c.a == 1) = false := by simp; omega
          clear h hok
          go_enter Try.func7, Try.ntmps7
          go_wp2_with fail
          refine (rCheck_any c A n d _ (H.out.below (by (repeat' (first | (with_reducible exact Below.refl _ _) | (with_reducible assumption) | (with_reducible refine below_drewN ?_ _) | (with_reducible refine below_new ?_ _) | (with_reducible refine Below.alloc ?_ ?_ _) | (with_reducible refine Below.drew ?_) | (with_reducible refine Below.setCell ?_ ?_ _) | (with_reducible apply below_at; (case k => (with_reducible assumption)); (case hB => omega)) | (with_reducible apply below_on; (with_reducible assumption)) | (go_size; done) | (with_reducible apply size_of)))))).mono ?_
          rintro e w1 ⟨rfl, hb1⟩
          rw [HE.out]
          have K1 : Lies (w1) (w.heap.size) 29 [.slice (A) (n) (d), .int .i64 (c).a] := by (repeat' (first | (with_reducible assumption) | (with_reducible exact Lies.fresh _ _ _) | (with_reducible apply Lies.fresh_at; (first | (with_reducible rfl) | (simp; done))) | (with_reducible refine Lies.drew ?_) | (with_reducible refine Lies.drewN ?_ _) | (with_reducible refine Lies.alloc ?_ _) | (with_reducible apply Lies.past; case hb => (with_reducible assumption)) | (with_reducible apply Lies.keeps; (case k => (with_reducible assumption)); (case ht => decide)) | (with_reducible apply Lies.store3) | (with_reducible apply Lies.other; case hp => (first | omega | (simp; done) | (simp; omega)))))
          have HK1 := Lib.hid K1
          obtain ⟨k0, k1, -, -⟩ := K1.two
          have lt1 := K1.lt
          clear K1
          go_wp2_with fail
          refine (Read_any c A n d 1 255 _ (H.out.below (by (repeat' (first | (with_reducible exact Below.refl _ _) | (with_reducible assumption) | (with_reducible refine below_drewN ?_ _) | (with_reducible refine below_new ?_ _) | (with_reducible refine Below.alloc ?_ ?_ _) | (with_reducible refine Below.drew ?_) | (with_reducible refine Below.setCell ?_ ?_ _) | (with_reducible apply below_at; (case k => (with_reducible assumption)); (case hB => omega)) | (with_reducible apply below_on; (with_reducible assumption)) | (go_size; done) | (with_reducible apply size_of))))) (by omega) (by omega)).mono ?_
          rintro e w2 ⟨A2, n2, c2, rfl, hn2, ho2, hb2⟩
          have I2 := Lib.hid (rdC_in H.out (by omega) (by omega) ho2 hn2)
          have HO2 := Lib.hid ho2
          have HN2 := Lib.hid hn2
          clear ho2 hn2
          rw [HR.out]
          have K2 : Lies (w2) (w.heap.size) 29 [.slice (A) (n) (d), .int .i64 (c).a] := by have := HK1.out; (repeat' (first | (with_reducible assumption) | (with_reducible exact Lies.fresh _ _ _) | (with_reducible apply Lies.fresh_at; (first | (with_reducible rfl) | (simp; done))) | (with_reducible refine Lies.drew ?_) | (with_reducible refine Lies.drewN ?_ _) | (with_reducible refine Lies.alloc ?_ _) | (with_reducible apply Lies.past; case hb => (with_reducible assumption)) | (with_reducible apply Lies.keeps; (case k => (with_reducible assumption)); (case ht => decide)) | (with_reducible apply Lies.store3) | (with_reducible apply Lies.other; case hp => (first | omega | (simp; done) | (simp; omega)))))
          have HK2 := Lib.hid K2
          obtain ⟨k2, k3, -, -⟩ := K2.two
          have lt2 := K2.lt
          clear K2 k0 k1
          go_wp2_with fail
          refine (Read_any (rdC c 1 255) A2 n2 c2 1 255 _ (I2.out.below (by (repeat' (first | (with_reducible exact Below.refl _ _) | (with_reducible assumption) | (with_reducible refine below_drewN ?_ _) | (with_reducible refine below_new ?_ _) | (with_reducible refine Below.alloc ?_ ?_ _) | (with_reducible refine Below.drew ?_) | (with_reducible refine Below.setCell ?_ ?_ _) | (with_reducible apply below_at; (case k => (with_reducible assumption)); (case hB => omega)) | (with_reducible apply below_on; (with_reducible assumption)) | (go_size; done) | (with_reducible apply size_of))))) (by omega) (by omega)).mono ?_
          rintro e w3 ⟨A3, n3, c3, rfl, hn3, ho3, hb3⟩
          have HO3 := Lib.hid ho3
          have HN3 := Lib.hid hn3
          clear ho3 hn3
          skip
          have K3 : Lies (w3) (w.heap.size) 29 [.slice (A) (n) (d), .int .i64 (c).a] := by have := HK2.out; (repeat' (first | (with_reducible assumption) | (with_reducible exact Lies.fresh _ _ _) | (with_reducible apply Lies.fresh_at; (first | (with_reducible rfl) | (simp; done))) | (with_reducible refine Lies.drew ?_) | (with_reducible refine Lies.drewN ?_ _) | (with_reducible refine Lies.alloc ?_ _) | (with_reducible apply Lies.past; case hb => (with_reducible assumption)) | (with_reducible apply Lies.keeps; (case k => (with_reducible assumption)); (case ht => decide)) | (with_reducible apply Lies.store3) | (with_reducible apply Lies.other; case hp => (first | omega | (simp; done) | (simp; omega)))))
          have HK3 := Lib.hid K3
          obtain ⟨k4, k5, -, -⟩ := K3.two
          have lt3 := K3.lt
          clear K3 k2 k3
          go_wp2_with fail
          refine (Read_any c A n d 2 65535 _ (H.out.below (by (repeat' (first | (with_reducible exact Below.refl _ _) | (with_reducible assumption) | (with_reducible refine below_drewN ?_ _) | (with_reducible refine below_new ?_ _) | (with_reducible refine Below.alloc ?_ ?_ _) | (with_reducible refine Below.drew ?_) | (with_reducible refine Below.setCell ?_ ?_ _) | (with_reducible apply below_at; (case k => (with_reducible assumption)); (case hB => omega)) | (with_reducible apply below_on; (with_reducible assumption)) | (go_size; done) | (with_reducible apply size_of))))) (by omega) (by omega)).mono ?_
          rintro e w4 ⟨A4, n4, c4, rfl, hn4, ho4, hb4⟩
          have HO4 := Lib.hid ho4
          have HN4 := Lib.hid hn4
          clear ho4 hn4
          rw [HM.out.1]
          have K4 : Lies (w4) (w.heap.size) 29 [.slice (A) (n) (d), .int .i64 (c).a] := by have := HK3.out; (repeat' (first | (with_reducible assumption) | (with_reducible exact Lies.fresh _ _ _) | (with_reducible apply Lies.fresh_at; (first | (with_reducible rfl) | (simp; done))) | (with_reducible refine Lies.drew ?_) | (with_reducible refine Lies.drewN ?_ _) | (with_reducible refine Lies.alloc ?_ _) | (with_reducible apply Lies.past; case hb => (with_reducible assumption)) | (with_reducible apply Lies.keeps; (case k => (with_reducible assumption)); (case ht => decide)) | (with_reducible apply Lies.store3) | (with_reducible apply Lies.other; case hp => (first | omega | (simp; done) | (simp; omega)))))
          have HK4 := Lib.hid K4
          obtain ⟨k6, k7, -, -⟩ := K4.two
          have lt4 := K4.lt
          clear K4 k4 k5
          go_wp2_with fail
          refine (Take_any c A n d 2 _ (H.out.below (by (repeat' (first | (with_reducible exact Below.refl _ _) | (with_reducible assumption) | (with_reducible refine below_drewN ?_ _) | (with_reducible refine below_new ?_ _) | (with_reducible refine Below.alloc ?_ ?_ _) | (with_reducible refine Below.drew ?_) | (with_reducible refine Below.setCell ?_ ?_ _) | (with_reducible apply below_at; (case k => (with_reducible assumption)); (case hB => omega)) | (with_reducible apply below_on; (with_reducible assumption)) | (go_size; done) | (with_reducible apply size_of))))) (by omega) (by omega)).mono ?_
          rintro e w5 ⟨A5, n5, c5, B5, m5, e5, rfl, hn5, hm5, ho5, hp5, hb5⟩
          have HO5 := Lib.hid ho5
          have HN5 := Lib.hid hn5
          have HP5 := Lib.hid hp5
          have HM5 := Lib.hid hm5
          clear ho5 hn5 hp5 hm5
          rw [HM.out.2.1]
          have K5 : Lies (w5) (w.heap.size) 29 [.slice (A) (n) (d), .int .i64 (c).a] := by have := HK4.out; (repeat' (first | (with_reducible assumption) | (with_reducible exact Lies.fresh _ _ _) | (with_reducible apply Lies.fresh_at; (first | (with_reducible rfl) | (simp; done))) | (with_reducible refine Lies.drew ?_) | (with_reducible refine Lies.drewN ?_ _) | (with_reducible refine Lies.alloc ?_ _) | (with_reducible apply Lies.past; case hb => (with_reducible assumption)) | (with_reducible apply Lies.keeps; (case k => (with_reducible assumption)); (case ht => decide)) | (with_reducible apply Lies.store3) | (with_reducible apply Lies.other; case hp => (first | omega | (simp; done) | (simp; omega)))))
          have HK5 := Lib.hid K5
          obtain ⟨k8, k9, -, -⟩ := K5.two
          have lt5 := K5.lt
          clear K5 k6 k7
          generalize rdN c 1 255 = z1 at *
          generalize rdN (rdC c 1 255) 1 255 = z2 at *
          generalize rdE (rdC c 1 255) 1 255 = z3 at *
          generalize rdN c 2 65535 = z4 at *
          go_wp2_with (first | (go_at_call 18; refine (alive _).mono ?_; rintro e w6 ⟨rfl, hb6⟩))
          go_ret
          exact ⟨rfl, by (repeat' (first | (with_reducible exact Below.refl _ _) | (with_reducible assumption) | (with_reducible refine below_drewN ?_ _) | (with_reducible refine below_new ?_ _) | (with_reducible refine Below.alloc ?_ ?_ _) | (with_reducible refine Below.drew ?_) | (with_reducible refine Below.setCell ?_ ?_ _) | (with_reducible apply below_at; (case k => (with_reducible assumption)); (case hB => omega)) | (with_reducible apply below_on; (with_reducible assumption)) | (go_size; done) | (with_reducible apply size_of)))⟩
        · have HR : Hid (rdE c 1 255 = 0) := Lib.hid (mv_one c hok (by rw [h.e]; omega) h.b)
          have hn1 : (n : Int) - c.a = 1 := by omega
          have hb3 : ((n : Int) - c.a == 1) = true := by simp; omega
          clear hn1
          clear h hok
          go_enter Try.func7, Try.ntmps7
          go_wp2_with fail
          refine (rCheck_any c A n d _ (H.out.below (by (repeat' (first | (with_reducible exact Below.refl _ _) | (with_reducible assumption) | (with_reducible refine below_drewN ?_ _) | (with_reducible refine below_new ?_ _) | (with_reducible refine Below.alloc ?_ ?_ _) | (with_reducible refine Below.drew ?_) | (with_reducible refine Below.setCell ?_ ?_ _) | (with_reducible apply below_at; (case k => (with_reducible assumption)); (case hB => omega)) | (with_reducible apply below_on; (with_reducible assumption)) | (go_size; done) | (with_reducible apply size_of)))))).mono ?_
          rintro e w1 ⟨rfl, hb1⟩
          rw [HE.out]
          have K1 : Lies (w1) (w.heap.size) 29 [.slice (A) (n) (d), .int .i64 (c).a] := by (repeat' (first | (with_reducible assumption) | (with_reducible exact Lies.fresh _ _ _) | (with_reducible apply Lies.fresh_at; (first | (with_reducible rfl) | (simp; done))) | (with_reducible refine Lies.drew ?_) | (with_reducible refine Lies.drewN ?_ _) | (with_reducible refine Lies.alloc ?_ _) | (with_reducible apply Lies.past; case hb => (with_reducible assumption)) | (with_reducible apply Lies.keeps; (case k => (with_reducible assumption)); (case ht => decide)) | (with_reducible apply Lies.store3) | (with_reducible apply Lies.other; case hp => (first | omega | (simp; done) | (simp; omega)))))
          have HK1 := Lib.hid K1
          obtain ⟨k0, k1, -, -⟩ := K1.two
          have lt1 := K1.lt
          clear K1
          go_wp2_with fail
          refine (Read_any c A n d 1 255 _ (H.out.below (by (repeat' (first | (with_reducible exact Below.refl _ _) | (with_reducible assumption) | (with_reducible refine below_drewN ?_ _) | (with_reducible refine below_new ?_ _) | (with_reducible refine Below.alloc ?_ ?_ _) | (with_reducible refine Below.drew ?_) | (with_reducible refine Below.setCell ?_ ?_ _) | (with_reducible apply below_at; (case k => (with_reducible assumption)); (case hB => omega)) | (with_reducible apply below_on; (with_reducible assumption)) | (go_size; done) | (with_reducible apply size_of))))) (by omega) (by omega)).mono ?_
          rintro e w2 ⟨A2, n2, c2, rfl, hn2, ho2, hb2⟩
          have I2 := Lib.hid (rdC_in H.out (by omega) (by omega) ho2 hn2)
          have HO2 := Lib.hid ho2
          have HN2 := Lib.hid hn2
          clear ho2 hn2
          rw [HR.out]
          have K2 : Lies (w2) (w.heap.size) 29 [.slice (A) (n) (d), .int .i64 (c).a] := by have := HK1.out; (repeat' (first | (with_reducible assumption) | (with_reducible exact Lies.fresh _ _ _) | (with_reducible apply Lies.fresh_at; (first | (with_reducible rfl) | (simp; done))) | (with_reducible refine Lies.drew ?_) | (with_reducible refine Lies.drewN ?_ _) | (with_reducible refine Lies.alloc ?_ _) | (with_reducible apply Lies.past; case hb => (with_reducible assumption)) | (with_reducible apply Lies.keeps; (case k => (with_reducible assumption)); (case ht => decide)) | (with_reducible apply Lies.store3) | (with_reducible apply Lies.other; case hp => (first | omega | (simp; done) | (simp; omega)))))
          have HK2 := Lib.hid K2
          obtain ⟨k2, k3, -, -⟩ := K2.two
          have lt2 := K2.lt
          clear K2 k0 k1
          go_wp2_with fail
          refine (Read_any (rdC c 1 255) A2 n2 c2 1 255 _ (I2.out.below (by (repeat' (first | (with_reducible exact Below.refl _ _) | (with_reducible assumption) | (with_reducible refine below_drewN ?_ _) | (with_reducible refine below_new ?_ _) | (with_reducible refine Below.alloc ?_ ?_ _) | (with_reducible refine Below.drew ?_) | (with_reducible refine Below.setCell ?_ ?_ _) | (with_reducible apply below_at; (case k => (with_reducible assumption)); (case hB => omega)) | (with_reducible apply below_on; (with_reducible assumption)) | (go_size; done) | (with_reducible apply size_of))))) (by omega) (by omega)).mono ?_
          rintro e w3 ⟨A3, n3, c3, rfl, hn3, ho3, hb3⟩
          have HO3 := Lib.hid ho3
          have HN3 := Lib.hid hn3
          clear ho3 hn3
          skip
          have K3 : Lies (w3) (w.heap.size) 29 [.slice (A) (n) (d), .int .i64 (c).a] := by have := HK2.out; (repeat' (first | (with_reducible assumption) | (with_reducible exact Lies.fresh _ _ _) | (with_reducible apply Lies.fresh_at; (first | (with_reducible rfl) | (simp; done))) | (with_reducible refine Lies.drew ?_) | (with_reducible refine Lies.drewN ?_ _) | (with_reducible refine Lies.alloc ?_ _) | (with_reducible apply Lies.past; case hb => (with_reducible assumption)) | (with_reducible apply Lies.keeps; (case k => (with_reducible assumption)); (case ht => decide)) | (with_reducible apply Lies.store3) | (with_reducible apply Lies.other; case hp => (first | omega | (simp; done) | (simp; omega)))))
          have HK3 := Lib.hid K3
          obtain ⟨k4, k5, -, -⟩ := K3.two
          have lt3 := K3.lt
          clear K3 k2 k3
          go_wp2_with fail
          refine (Read_any c A n d 2 65535 _ (H.out.below (by (repeat' (first | (with_reducible exact Below.refl _ _) | (with_reducible assumption) | (with_reducible refine below_drewN ?_ _) | (with_reducible refine below_new ?_ _) | (with_reducible refine Below.alloc ?_ ?_ _) | (with_reducible refine Below.drew ?_) | (with_reducible refine Below.setCell ?_ ?_ _) | (with_reducible apply below_at; (case k => (with_reducible assumption)); (case hB => omega)) | (with_reducible apply below_on; (with_reducible assumption)) | (go_size; done) | (with_reducible apply size_of))))) (by omega) (by omega)).mono ?_
          rintro e w4 ⟨A4, n4, c4, rfl, hn4, ho4, hb4⟩
          have HO4 := Lib.hid ho4
          have HN4 := Lib.hid hn4
          clear ho4 hn4
          rw [HM.out.1]
          have K4 : Lies (w4) (w.heap.size) 29 [.slice (A) (n) (d), .int .i64 (c).a] := by have := HK3.out; (repeat' (first | (with_reducible assumption) | (with_reducible exact Lies.fresh _ _ _) | (with_reducible apply Lies.fresh_at; (first | (with_reducible rfl) | (simp; done))) | (with_reducible refine Lies.drew ?_) | (with_reducible refine Lies.drewN ?_ _) | (with_reducible refine Lies.alloc ?_ _) | (with_reducible apply Lies.past; case hb => (with_reducible assumption)) | (with_reducible apply Lies.keeps; (case k => (with_reducible assumption)); (case ht => decide)) | (with_reducible apply Lies.store3) | (with_reducible apply Lies.other; case hp => (first | omega | (simp; done) | (simp; omega)))))
          have HK4 := Lib.hid K4
          obtain ⟨k6, k7, -, -⟩ := K4.two
          have lt4 := K4.lt
          clear K4 k4 k5
          go_wp2_with fail
          refine (Take_any c A n d 2 _ (H.out.below (by (repeat' (first | (with_reducible exact Below.refl _ _) | (with_reducible assumption) | (with_reducible refine below_drewN ?_ _) | (with_reducible refine below_new ?_ _) | (with_reducible refine Below.alloc ?_ ?_ _) | (with_reducible refine Below.drew ?_) | (with_reducible refine Below.setCell ?_ ?_ _) | (with_reducible apply below_at; (case k => (with_reducible assumption)); (case hB => omega)) | (with_reducible apply below_on; (with_reducible assumption)) | (go_size; done) | (with_reducible apply size_of))))) (by omega) (by omega)).mono ?_
          rintro e w5 ⟨A5, n5, c5, B5, m5, e5, rfl, hn5, hm5, ho5, hp5, hb5⟩
          have HO5 := Lib.hid ho5
          have HN5 := Lib.hid hn5
          have HP5 := Lib.hid hp5
          have HM5 := Lib.hid hm5
          clear ho5 hn5 hp5 hm5
          rw [HM.out.2.1]
          have K5 : Lies (w5) (w.heap.size) 29 [.slice (A) (n) (d), .int .i64 (c).a] := by have := HK4.out; (repeat' (first | (with_reducible assumption) | (with_reducible exact Lies.fresh _ _ _) | (with_reducible apply Lies.fresh_at; (first | (with_reducible rfl) | (simp; done))) | (with_reducible refine Lies.drew ?_) | (with_reducible refine Lies.drewN ?_ _) | (with_reducible refine Lies.alloc ?_ _) | (with_reducible apply Lies.past; case hb => (with_reducible assumption)) | (with_reducible apply Lies.keeps; (case k => (with_reducible assumption)); (case ht => decide)) | (with_reducible apply Lies.store3) | (with_reducible apply Lies.other; case hp => (first | omega | (simp; done) | (simp; omega)))))
          have HK5 := Lib.hid K5
          obtain ⟨k8, k9, -, -⟩ := K5.two
          have lt5 := K5.lt
          clear K5 k6 k7
          generalize rdN c 1 255 = z1 at *
          generalize rdN (rdC c 1 255) 1 255 = z2 at *
          generalize rdE (rdC c 1 255) 1 255 = z3 at *
          generalize rdN c 2 65535 = z4 at *
          go_wp2_with (first | (go_at_call 18; refine (alive _).mono ?_; rintro e w6 ⟨rfl, hb6⟩))
          go_ret
          exact ⟨rfl, by (repeat' (first | (with_reducible exact Below.refl _ _) | (with_reducible assumption) | (with_reducible refine below_drewN ?_ _) | (with_reducible refine below_new ?_ _) | (with_reducible refine Below.alloc ?_ ?_ _) | (with_reducible refine Below.drew ?_) | (with_reducible refine Below.setCell ?_ ?_ _) | (with_reducible apply below_at; (case k => (with_reducible assumption)); (case hB => omega)) | (with_reducible apply below_on; (with_reducible assumption)) | (go_size; done) | (with_reducible apply size_of)))⟩
      · obtain ⟨p, q, p0, p1, q0, q1, hm⟩ := mv_facts c hok (by rw [h.e]; omega) h.b
        have HM := Lib.hid hm
        have hs2 : 2 ≤ (n : Int) - c.a := by omega
        clear h hok hm hs
        obtain ⟨r1, r2, r3, s1, s2, s3, t1, t2, t3, u1, u2, u3⟩ := HM.out
        have R1 := Lib.hid r1
        have R2 := Lib.hid r2
        have R3 := Lib.hid r3
        have S1 := Lib.hid s1
        have S2 := Lib.hid s2
        have S3 := Lib.hid s3
        have T1 := Lib.hid t1
        have T2 := Lib.hid t2
        have T3 := Lib.hid t3
        have U1 := Lib.hid u1
        have U2 := Lib.hid u2
        have U3 := Lib.hid u3
        clear r1 r2 r3 s1 s2 s3 t1 t2 t3 u1 u2 u3 HM
        have hq0 : (p * 256 + q != p * 256 + q) = false := by simp
        have hab : (c.a + 1 + 1 == c.a + 2) = true := by simp; omega
        go_enter Try.func7, Try.ntmps7
        go_wp2_with fail
        refine (rCheck_any c A n d _ (H.out.below (by (repeat' (first | (with_reducible exact Below.refl _ _) | (with_reducible assumption) | (with_reducible refine below_drewN ?_ _) | (with_reducible refine below_new ?_ _) | (with_reducible refine Below.alloc ?_ ?_ _) | (with_reducible refine Below.drew ?_) | (with_reducible refine Below.setCell ?_ ?_ _) | (with_reducible apply below_at; (case k => (with_reducible assumption)); (case hB => omega)) | (with_reducible apply below_on; (with_reducible assumption)) | (go_size; done) | (with_reducible apply size_of)))))).mono ?_
        rintro e w1 ⟨rfl, hb1⟩
        rw [HE.out]
        have K1 : Lies (w1) (w.heap.size) 29 [.slice (A) (n) (d), .int .i64 (c).a] := by (repeat' (first | (with_reducible assumption) | (with_reducible exact Lies.fresh _ _ _) | (with_reducible apply Lies.fresh_at; (first | (with_reducible rfl) | (simp; done))) | (with_reducible refine Lies.drew ?_) | (with_reducible refine Lies.drewN ?_ _) | (with_reducible refine Lies.alloc ?_ _) | (with_reducible apply Lies.past; case hb => (with_reducible assumption)) | (with_reducible apply Lies.keeps; (case k => (with_reducible assumption)); (case ht => decide)) | (with_reducible apply Lies.store3) | (with_reducible apply Lies.other; case hp => (first | omega | (simp; done) | (simp; omega)))))
        have HK1 := Lib.hid K1
        obtain ⟨k0, k1, -, -⟩ := K1.two
        have lt1 := K1.lt
        clear K1
        go_wp2_with fail
        refine (Read_any c A n d 1 255 _ (H.out.below (by (repeat' (first | (with_reducible exact Below.refl _ _) | (with_reducible assumption) | (with_reducible refine below_drewN ?_ _) | (with_reducible refine below_new ?_ _) | (with_reducible refine Below.alloc ?_ ?_ _) | (with_reducible refine Below.drew ?_) | (with_reducible refine Below.setCell ?_ ?_ _) | (with_reducible apply below_at; (case k => (with_reducible assumption)); (case hB => omega)) | (with_reducible apply below_on; (with_reducible assumption)) | (go_size; done) | (with_reducible apply size_of))))) (by omega) (by omega)).mono ?_
        rintro e w2 ⟨A2, n2, c2, rfl, hn2, ho2, hb2⟩
        have I2 := Lib.hid (rdC_in H.out (by omega) (by omega) ho2 hn2)
        have HO2 := Lib.hid ho2
        have HN2 := Lib.hid hn2
        clear ho2 hn2
        rw [R1.out, R2.out, R3.out]
        rw [R2.out] at I2 HO2 HN2
        have K2 : Lies (w2) (w.heap.size) 29 [.slice (A) (n) (d), .int .i64 (c).a] := by have := HK1.out; (repeat' (first | (with_reducible assumption) | (with_reducible exact Lies.fresh _ _ _) | (with_reducible apply Lies.fresh_at; (first | (with_reducible rfl) | (simp; done))) | (with_reducible refine Lies.drew ?_) | (with_reducible refine Lies.drewN ?_ _) | (with_reducible refine Lies.alloc ?_ _) | (with_reducible apply Lies.past; case hb => (with_reducible assumption)) | (with_reducible apply Lies.keeps; (case k => (with_reducible assumption)); (case ht => decide)) | (with_reducible apply Lies.store3) | (with_reducible apply Lies.other; case hp => (first | omega | (simp; done) | (simp; omega)))))
        have HK2 := Lib.hid K2
        obtain ⟨k2, k3, -, -⟩ := K2.two
        have lt2 := K2.lt
        clear K2 k0 k1
        go_wp2_with fail
        refine (Read_any ⟨c.b, c.a + 1⟩ A2 n2 c2 1 255 _ (I2.out.below (by (repeat' (first | (with_reducible exact Below.refl _ _) | (with_reducible assumption) | (with_reducible refine below_drewN ?_ _) | (with_reducible refine below_new ?_ _) | (with_reducible refine Below.alloc ?_ ?_ _) | (with_reducible refine Below.drew ?_) | (with_reducible refine Below.setCell ?_ ?_ _) | (with_reducible apply below_at; (case k => (with_reducible assumption)); (case hB => omega)) | (with_reducible apply below_on; (with_reducible assumption)) | (go_size; done) | (with_reducible apply size_of))))) (by omega) (by omega)).mono ?_
        rintro e w3 ⟨A3, n3, c3, rfl, hn3, ho3, hb3⟩
        have HO3 := Lib.hid ho3
        have HN3 := Lib.hid hn3
        clear ho3 hn3
        rw [S1.out, S2.out, S3.out]
        rw [S2.out] at HO3 HN3
        have e3 : n = n3 := by rw [HN3.out]; exact HL.out.symm
        subst e3
        have K3 : Lies (w3) (w.heap.size) 29 [.slice (A) (n) (d), .int .i64 (c).a] := by have := HK2.out; (repeat' (first | (with_reducible assumption) | (with_reducible exact Lies.fresh _ _ _) | (with_reducible apply Lies.fresh_at; (first | (with_reducible rfl) | (simp; done))) | (with_reducible refine Lies.drew ?_) | (with_reducible refine Lies.drewN ?_ _) | (with_reducible refine Lies.alloc ?_ _) | (with_reducible apply Lies.past; case hb => (with_reducible assumption)) | (with_reducible apply Lies.keeps; (case k => (with_reducible assumption)); (case ht => decide)) | (with_reducible apply Lies.store3) | (with_reducible apply Lies.other; case hp => (first | omega | (simp; done) | (simp; omega)))))
        have HK3 := Lib.hid K3
        obtain ⟨k4, k5, -, -⟩ := K3.two
        have lt3 := K3.lt
        clear K3 k2 k3
        go_wp2_with fail
        refine (Read_any c A n d 2 65535 _ (H.out.below (by (repeat' (first | (with_reducible exact Below.refl _ _) | (with_reducible assumption) | (with_reducible refine below_drewN ?_ _) | (with_reducible refine below_new ?_ _) | (with_reducible refine Below.alloc ?_ ?_ _) | (with_reducible refine Below.drew ?_) | (with_reducible refine Below.setCell ?_ ?_ _) | (with_reducible apply below_at; (case k => (with_reducible assumption)); (case hB => omega)) | (with_reducible apply below_on; (with_reducible assumption)) | (go_size; done) | (with_reducible apply size_of))))) (by omega) (by omega)).mono ?_
        rintro e w4 ⟨A4, n4, c4, rfl, hn4, ho4, hb4⟩
        have HO4 := Lib.hid ho4
        have HN4 := Lib.hid hn4
        clear ho4 hn4
        rw [T1.out, T2.out, T3.out]
        rw [T2.out] at HO4 HN4
        have D3 : Lies w4 w3.heap.size 29 [.slice A3 n c3, .int .i64 (c.a + 1 + 1)] := by (repeat' (first | (with_reducible assumption) | (with_reducible exact Lies.fresh _ _ _) | (with_reducible apply Lies.fresh_at; (first | (with_reducible rfl) | (simp; done))) | (with_reducible refine Lies.drew ?_) | (with_reducible refine Lies.drewN ?_ _) | (with_reducible refine Lies.alloc ?_ _) | (with_reducible apply Lies.past; case hb => (with_reducible assumption)) | (with_reducible apply Lies.keeps; (case k => (with_reducible assumption)); (case ht => decide)) | (with_reducible apply Lies.store3) | (with_reducible apply Lies.other; case hp => (first | omega | (simp; done) | (simp; omega)))))
        have HD3 := Lib.hid D3
        clear D3
        have e4 : n = n4 := by rw [HN4.out]; exact HL.out.symm
        subst e4
        have K4 : Lies (w4) (w.heap.size) 29 [.slice (A) (n) (d), .int .i64 (c).a] := by have := HK3.out; (repeat' (first | (with_reducible assumption) | (with_reducible exact Lies.fresh _ _ _) | (with_reducible apply Lies.fresh_at; (first | (with_reducible rfl) | (simp; done))) | (with_reducible refine Lies.drew ?_) | (with_reducible refine Lies.drewN ?_ _) | (with_reducible refine Lies.alloc ?_ _) | (with_reducible apply Lies.past; case hb => (with_reducible assumption)) | (with_reducible apply Lies.keeps; (case k => (with_reducible assumption)); (case ht => decide)) | (with_reducible apply Lies.store3) | (with_reducible apply Lies.other; case hp => (first | omega | (simp; done) | (simp; omega)))))
        have HK4 := Lib.hid K4
        obtain ⟨k6, k7, -, -⟩ := K4.two
        have lt4 := K4.lt
        clear K4 k4 k5
        go_wp2_with fail
        refine (Take_any c A n d 2 _ (H.out.below (by (repeat' (first | (with_reducible exact Below.refl _ _) | (with_reducible assumption) | (with_reducible refine below_drewN ?_ _) | (with_reducible refine below_new ?_ _) | (with_reducible refine Below.alloc ?_ ?_ _) | (with_reducible refine Below.drew ?_) | (with_reducible refine Below.setCell ?_ ?_ _) | (with_reducible apply below_at; (case k => (with_reducible assumption)); (case hB => omega)) | (with_reducible apply below_on; (with_reducible assumption)) | (go_size; done) | (with_reducible apply size_of))))) (by omega) (by omega)).mono ?_
        rintro e w5 ⟨A5, n5, c5, B5, m5, e5, rfl, hn5, hm5, ho5, hp5, hb5⟩
        have HO5 := Lib.hid ho5
        have HN5 := Lib.hid hn5
        have HP5 := Lib.hid hp5
        have HM5 := Lib.hid hm5
        clear ho5 hn5 hp5 hm5
        rw [U1.out, U2.out]
        rw [U2.out] at HO5 HN5
        rw [U3.out] at HP5 HM5
        have D4 : Lies w5 w4.heap.size 29 [.slice A4 n c4, .int .i64 (c.a + 2)] := by (repeat' (first | (with_reducible assumption) | (with_reducible exact Lies.fresh _ _ _) | (with_reducible apply Lies.fresh_at; (first | (with_reducible rfl) | (simp; done))) | (with_reducible refine Lies.drew ?_) | (with_reducible refine Lies.drewN ?_ _) | (with_reducible refine Lies.alloc ?_ _) | (with_reducible apply Lies.past; case hb => (with_reducible assumption)) | (with_reducible apply Lies.keeps; (case k => (with_reducible assumption)); (case ht => decide)) | (with_reducible apply Lies.store3) | (with_reducible apply Lies.other; case hp => (first | omega | (simp; done) | (simp; omega)))))
        have HD4 := Lib.hid D4
        have D3 : Lies w5 w3.heap.size 29 [.slice A3 n c3, .int .i64 (c.a + 1 + 1)] := by have := HD3.out; (repeat' (first | (with_reducible assumption) | (with_reducible exact Lies.fresh _ _ _) | (with_reducible apply Lies.fresh_at; (first | (with_reducible rfl) | (simp; done))) | (with_reducible refine Lies.drew ?_) | (with_reducible refine Lies.drewN ?_ _) | (with_reducible refine Lies.alloc ?_ _) | (with_reducible apply Lies.past; case hb => (with_reducible assumption)) | (with_reducible apply Lies.keeps; (case k => (with_reducible assumption)); (case ht => decide)) | (with_reducible apply Lies.store3) | (with_reducible apply Lies.other; case hp => (first | omega | (simp; done) | (simp; omega)))))
        have HD3 := Lib.hid D3
        obtain ⟨f0, f1, -, -⟩ := D3.two
        obtain ⟨f2, f3, -, -⟩ := D4.two
        have ltD3 := D3.lt
        have ltD4 := D4.lt
        clear D3 D4
        have e5 : n = n5 := by rw [HN5.out]; exact HL.out.symm
        subst e5
        obtain rfl : m5 = 2 := HM5.out
        have K5 : Lies (w5) (w.heap.size) 29 [.slice (A) (n) (d), .int .i64 (c).a] := by have := HK4.out; (repeat' (first | (with_reducible assumption) | (with_reducible exact Lies.fresh _ _ _) | (with_reducible apply Lies.fresh_at; (first | (with_reducible rfl) | (simp; done))) | (with_reducible refine Lies.drew ?_) | (with_reducible refine Lies.drewN ?_ _) | (with_reducible refine Lies.alloc ?_ _) | (with_reducible apply Lies.past; case hb => (with_reducible assumption)) | (with_reducible apply Lies.keeps; (case k => (with_reducible assumption)); (case ht => decide)) | (with_reducible apply Lies.store3) | (with_reducible apply Lies.other; case hp => (first | omega | (simp; done) | (simp; omega)))))
        have HK5 := Lib.hid K5
        obtain ⟨k8, k9, -, -⟩ := K5.two
        have lt5 := K5.lt
        clear K5 k6 k7
        go_wp2_with fail
        refine (rSame_any (c.a + 1 + 1) (c.a + 2) c.b c.b A3 A4 _ _ c3 c4 _ (HO3.out.has.below (by (repeat' (first | (with_reducible exact Below.refl _ _) | (with_reducible assumption) | (with_reducible refine below_drewN ?_ _) | (with_reducible refine below_new ?_ _) | (with_reducible refine Below.alloc ?_ ?_ _) | (with_reducible refine Below.drew ?_) | (with_reducible refine Below.setCell ?_ ?_ _) | (with_reducible apply below_at; (case k => (with_reducible assumption)); (case hB => omega)) | (with_reducible apply below_on; (with_reducible assumption)) | (go_size; done) | (with_reducible apply size_of)))) (Nat.le_refl _)) HL.out (HO4.out.has.below (by (repeat' (first | (with_reducible exact Below.refl _ _) | (with_reducible assumption) | (with_reducible refine below_drewN ?_ _) | (with_reducible refine below_new ?_ _) | (with_reducible refine Below.alloc ?_ ?_ _) | (with_reducible refine Below.drew ?_) | (with_reducible refine Below.setCell ?_ ?_ _) | (with_reducible apply below_at; (case k => (with_reducible assumption)); (case hB => omega)) | (with_reducible apply below_on; (with_reducible assumption)) | (go_size; done) | (with_reducible apply size_of)))) (Nat.le_refl _)) HL.out (by omega) (by omega)).mono ?_
        rintro e w6 ⟨rfl, hb6⟩
        rw [sm_one c]
        have D3 : Lies w6 w3.heap.size 29 [.slice A3 n c3, .int .i64 (c.a + 1 + 1)] := by have := HD3.out; (repeat' (first | (with_reducible assumption) | (with_reducible exact Lies.fresh _ _ _) | (with_reducible apply Lies.fresh_at; (first | (with_reducible rfl) | (simp; done))) | (with_reducible refine Lies.drew ?_) | (with_reducible refine Lies.drewN ?_ _) | (with_reducible refine Lies.alloc ?_ _) | (with_reducible apply Lies.past; case hb => (with_reducible assumption)) | (with_reducible apply Lies.keeps; (case k => (with_reducible assumption)); (case ht => decide)) | (with_reducible apply Lies.store3) | (with_reducible apply Lies.other; case hp => (first | omega | (simp; done) | (simp; omega)))))
        have D5 : Lies w6 w5.heap.size 29 [.slice A5 n c5, .int .i64 (c.a + 2)] := by (repeat' (first | (with_reducible assumption) | (with_reducible exact Lies.fresh _ _ _) | (with_reducible apply Lies.fresh_at; (first | (with_reducible rfl) | (simp; done))) | (with_reducible refine Lies.drew ?_) | (with_reducible refine Lies.drewN ?_ _) | (with_reducible refine Lies.alloc ?_ _) | (with_reducible apply Lies.past; case hb => (with_reducible assumption)) | (with_reducible apply Lies.keeps; (case k => (with_reducible assumption)); (case ht => decide)) | (with_reducible apply Lies.store3) | (with_reducible apply Lies.other; case hp => (first | omega | (simp; done) | (simp; omega)))))
        have K6 : Lies (w6) (w.heap.size) 29 [.slice (A) (n) (d), .int .i64 (c).a] := by have := HK5.out; (repeat' (first | (with_reducible assumption) | (with_reducible exact Lies.fresh _ _ _) | (with_reducible apply Lies.fresh_at; (first | (with_reducible rfl) | (simp; done))) | (with_reducible refine Lies.drew ?_) | (with_reducible refine Lies.drewN ?_ _) | (with_reducible refine Lies.alloc ?_ _) | (with_reducible apply Lies.past; case hb => (with_reducible assumption)) | (with_reducible apply Lies.keeps; (case k => (with_reducible assumption)); (case ht => decide)) | (with_reducible apply Lies.store3) | (with_reducible apply Lies.other; case hp => (first | omega | (simp; done) | (simp; omega)))))
        have HK6 := Lib.hid K6
        have HD3 := Lib.hid D3
        obtain ⟨x0, x1, -, -⟩ := D3.two
        obtain ⟨x2, x3, -, -⟩ := D5.two
        have ltE3 := D3.lt
        have ltE5 := D5.lt
        clear D3 D5 K6 f0 f1 f2 f3 k8 k9
        go_wp2_with fail
        refine (rSame_any (c.a + 1 + 1) (c.a + 2) c.b c.b A3 A5 _ _ c3 c5 _ (HO3.out.has.below (by (repeat' (first | (with_reducible exact Below.refl _ _) | (with_reducible assumption) | (with_reducible refine below_drewN ?_ _) | (with_reducible refine below_new ?_ _) | (with_reducible refine Below.alloc ?_ ?_ _) | (with_reducible refine Below.drew ?_) | (with_reducible refine Below.setCell ?_ ?_ _) | (with_reducible apply below_at; (case k => (with_reducible assumption)); (case hB => omega)) | (with_reducible apply below_on; (with_reducible assumption)) | (go_size; done) | (with_reducible apply size_of)))) (Nat.le_refl _)) HL.out (HO5.out.has.below (by (repeat' (first | (with_reducible exact Below.refl _ _) | (with_reducible assumption) | (with_reducible refine below_drewN ?_ _) | (with_reducible refine below_new ?_ _) | (with_reducible refine Below.alloc ?_ ?_ _) | (with_reducible refine Below.drew ?_) | (with_reducible refine Below.setCell ?_ ?_ _) | (with_reducible apply below_at; (case k => (with_reducible assumption)); (case hB => omega)) | (with_reducible apply below_on; (with_reducible assumption)) | (go_size; done) | (with_reducible apply size_of)))) (Nat.le_refl _)) HL.out (by omega) (by omega)).mono ?_
        rintro e w7 ⟨rfl, hb7⟩
        rw [sm_one c]
        have D3 : Lies w7 w3.heap.size 29 [.slice A3 n c3, .int .i64 (c.a + 1 + 1)] := by have := HD3.out; (repeat' (first | (with_reducible assumption) | (with_reducible exact Lies.fresh _ _ _) | (with_reducible apply Lies.fresh_at; (first | (with_reducible rfl) | (simp; done))) | (with_reducible refine Lies.drew ?_) | (with_reducible refine Lies.drewN ?_ _) | (with_reducible refine Lies.alloc ?_ _) | (with_reducible apply Lies.past; case hb => (with_reducible assumption)) | (with_reducible apply Lies.keeps; (case k => (with_reducible assumption)); (case ht => decide)) | (with_reducible apply Lies.store3) | (with_reducible apply Lies.other; case hp => (first | omega | (simp; done) | (simp; omega)))))
        have K7 : Lies (w7) (w.heap.size) 29 [.slice (A) (n) (d), .int .i64 (c).a] := by have := HK6.out; (repeat' (first | (with_reducible assumption) | (with_reducible exact Lies.fresh _ _ _) | (with_reducible apply Lies.fresh_at; (first | (with_reducible rfl) | (simp; done))) | (with_reducible refine Lies.drew ?_) | (with_reducible refine Lies.drewN ?_ _) | (with_reducible refine Lies.alloc ?_ _) | (with_reducible apply Lies.past; case hb => (with_reducible assumption)) | (with_reducible apply Lies.keeps; (case k => (with_reducible assumption)); (case ht => decide)) | (with_reducible apply Lies.store3) | (with_reducible apply Lies.other; case hp => (first | omega | (simp; done) | (simp; omega)))))
        obtain ⟨y0, y1, -, -⟩ := D3.two
        obtain ⟨y2, y3, -, -⟩ := K7.two
        clear D3 K7 x0 x1 x2 x3
        go_wp2_with fail
        refine (same8_any A3 A _ _ c3 d c.b c.b _ (HO3.out.has.below (by (repeat' (first | (with_reducible exact Below.refl _ _) | (with_reducible assumption) | (with_reducible refine below_drewN ?_ _) | (with_reducible refine below_new ?_ _) | (with_reducible refine Below.alloc ?_ ?_ _) | (with_reducible refine Below.drew ?_) | (with_reducible refine Below.setCell ?_ ?_ _) | (with_reducible apply below_at; (case k => (with_reducible assumption)); (case hB => omega)) | (with_reducible apply below_on; (with_reducible assumption)) | (go_size; done) | (with_reducible apply size_of)))) (Nat.le_refl _)) HL.out (H.out.h.below (by (repeat' (first | (with_reducible exact Below.refl _ _) | (with_reducible assumption) | (with_reducible refine below_drewN ?_ _) | (with_reducible refine below_new ?_ _) | (with_reducible refine Below.alloc ?_ ?_ _) | (with_reducible refine Below.drew ?_) | (with_reducible refine Below.setCell ?_ ?_ _) | (with_reducible apply below_at; (case k => (with_reducible assumption)); (case hB => omega)) | (with_reducible apply below_on; (with_reducible assumption)) | (go_size; done) | (with_reducible apply size_of)))) (Nat.le_refl _)) HL.out (by omega) (by omega)).mono ?_
        rintro e w8 ⟨rfl, hb8⟩
        rw [sm_two c]
        obtain ⟨bb, oo, rfl, hbb, hcc⟩ := has_some HP5.out.has (by simp)
        have hw8 : Below w5.heap.size w5 w8 := by (repeat' (first | (with_reducible exact Below.refl _ _) | (with_reducible assumption) | (with_reducible refine below_drewN ?_ _) | (with_reducible refine below_new ?_ _) | (with_reducible refine Below.alloc ?_ ?_ _) | (with_reducible refine Below.drew ?_) | (with_reducible refine Below.setCell ?_ ?_ _) | (with_reducible apply below_at; (case k => (with_reducible assumption)); (case hB => omega)) | (with_reducible apply below_on; (with_reducible assumption)) | (go_size; done) | (with_reducible apply size_of)))
        have v0 : w8.cell? ⟨bb, oo, none⟩ = some (.int .u8 p) := by rw [(bcell hw8).1 _ _ hbb]; exact hcc 0 (by simp)
        have v1 : w8.cell? ⟨bb, oo + 1, none⟩ = some (.int .u8 q) := by rw [(bcell hw8).1 _ _ hbb]; exact hcc 1 (by simp)
        have hpp : (p == p) = true := by simp
        have hqq : (q == q) = true := by simp
        clear hcc hw8
        go_wp2_with (first | (go_at_call 18; refine (alive _).mono ?_; rintro e w9 ⟨rfl, hb9⟩))
        go_ret
        exact ⟨rfl, by (repeat' (first | (with_reducible exact Below.refl _ _) | (with_reducible assumption) | (with_reducible refine below_drewN ?_ _) | (with_reducible refine below_new ?_ _) | (with_reducible refine Below.alloc ?_ ?_ _) | (with_reducible refine Below.drew ?_) | (with_reducible refine Below.setCell ?_ ?_ _) | (with_reducible apply below_at; (case k => (with_reducible assumption)); (case hB => omega)) | (with_reducible apply below_on; (with_reducible assumption)) | (go_size; done) | (with_reducible apply size_of)))⟩
  · clear h
    go_enter Try.func7, Try.ntmps7
    go_wp2_with (first | (go_at_call 18; refine (alive _).mono ?_; rintro e w3 ⟨rfl, hb3⟩))
    go_ret
    exact ⟨rfl, by (repeat' (first | (with_reducible exact Below.refl _ _) | (with_reducible assumption) | (with_reducible refine below_drewN ?_ _) | (with_reducible refine below_new ?_ _) | (with_reducible refine Below.alloc ?_ ?_ _) | (with_reducible refine Below.drew ?_) | (with_reducible refine Below.setCell ?_ ?_ _) | (with_reducible apply below_at; (case k => (with_reducible assumption)); (case hB => omega)) | (with_reducible apply below_on; (with_reducible assumption)) | (go_size; done) | (with_reducible apply size_of)))⟩
end Go.Proofs.Ythdgoahfhcoccaa.ocL
