/- The reference's New of adaptive maps, by walks. -/
import Derived.Test.YtipbafcjmeibpaaAdW14
namespace Go.Proofs.Ytipbafcjmeibpaa.adW
open Go.RowKit Go.Proofs.Ytipbafcjmeibpaa.base Go.Proofs.Ytipbafcjmeibpaa.adP
set_option linter.unusedVariables false
set_option linter.unusedSimpArgs false

theorem newA_p (l : Int) : (newA l).p = repZ 193 32768 := (repZ_eq 193 32768).symm
theorem newA_n (l : Int) : (newA l).n = repZ 193 0 := (repZ_eq 193 0).symm
set_option maxHeartbeats 1000000 in
theorem rNew_bad (l : Int) (w : World) (h : newOk l = false) :
    Calls Try.prog 18 #[.int .i64 l] w fun e w' => e = .returned (.tuple #[.agg #[.int .i32 (zeroA).l, .slice none 0 0, .slice none 0 0], .int .i64 2]) ∧ Below w.heap.size w w' := by
  by_cases c1 : l < 1
  · clear h
    go_enter Try.func18, Try.ntmps18
    go_wp2
    refine bodyPost_ret (by simp [results, Try.results18, go_sem, ]; try rfl) rfl ?_
    exact ⟨rfl, by (repeat' (first | (with_reducible exact Below.refl _ _) | (with_reducible assumption) | (with_reducible refine below_drewN ?_ _) | (with_reducible refine below_new ?_ _) | (with_reducible refine Below.alloc ?_ ?_ _) | (with_reducible refine Below.drew ?_) | (with_reducible refine Below.setCell ?_ ?_ _) | (with_reducible apply below_at; (case k => (with_reducible assumption)); (case hB => omega)) | (with_reducible apply below_on; (with_reducible assumption)) | (go_size; done) | (with_reducible apply size_of)))⟩
  · have c2 : 1000 < l := by
      have : ¬ (1 ≤ l ∧ l ≤ 1000) := fun hh => by rw [(newOk_iff l).2 hh] at h; cases h
      omega
    clear h
    go_enter Try.func18, Try.ntmps18
    go_wp2
    refine bodyPost_ret (by simp [results, Try.results18, go_sem, ]; try rfl) rfl ?_
    exact ⟨rfl, by (repeat' (first | (with_reducible exact Below.refl _ _) | (with_reducible assumption) | (with_reducible refine below_drewN ?_ _) | (with_reducible refine below_new ?_ _) | (with_reducible refine Below.alloc ?_ ?_ _) | (with_reducible refine Below.drew ?_) | (with_reducible refine Below.setCell ?_ ?_ _) | (with_reducible apply below_at; (case k => (with_reducible assumption)); (case hB => omega)) | (with_reducible apply below_on; (with_reducible assumption)) | (go_size; done) | (with_reducible apply size_of)))⟩
set_option maxHeartbeats 1000000 in
theorem rNew_ok (l : Int) (w : World) (h1 : 1 ≤ l) (h2 : l ≤ 1000) :
    Calls Try.prog 18 #[.int .i64 l] w fun e w' => ∃ A B c d, e = .returned (.tuple #[.agg #[.int .i32 l, .slice A 193 c, .slice B 193 d], .int .i64 0]) ∧ OwnI w' w.heap.size 21 .i32 (.slice A 193 c) (repZ 193 32768) ∧ OwnI w' w.heap.size 21 .i32 (.slice B 193 d) (repZ 193 0) ∧ Below w.heap.size w w' := by
  go_enter Try.func18, Try.ntmps18
  go_wp2_with fail
  refine (Begin_ok l _ h1 h2).mono ?_
  rintro e w1 ⟨A, B, c, d, rfl, o1, o2, hb1⟩
  have hr1 : Lies (w1) (w.heap.size) 24 [.int .i32 0, .slice none 0 0, .slice none 0 0] := (by (repeat' (first | (with_reducible assumption) | (with_reducible exact Lies.fresh _ _ _) | (with_reducible apply Lies.fresh_at; (first | (with_reducible rfl) | (simp; done))) | (with_reducible refine Lies.drew ?_) | (with_reducible refine Lies.drewN ?_ _) | (with_reducible refine Lies.alloc ?_ _) | (with_reducible apply Lies.past; case hb => (with_reducible assumption)) | (with_reducible apply Lies.keeps; (case k => (with_reducible assumption)); (case ht => decide)) | (with_reducible apply Lies.store3) | (with_reducible apply Lies.other; case hp => (first | omega | (simp; done) | (simp; omega))))))
  have lr := hr1.lt
  obtain ⟨r0, r1, r2, f0, f1, f2⟩ := hr1.three
  have z1 := hb1.size
  simp at z1
  go_wp2_with fail
  obtain ⟨t0, t1, t2, -, -, -⟩ := (hr1.store3 (a := .int .i32 l) (b := .slice A 193 c) (c := .slice B 193 d)).three
  refine bodyPost_ret (by simp [results, Try.results18, go_sem, t0, t1, t2]; try rfl) rfl ?_
  refine ⟨A, B, c, d, rfl, OwnI.mono (own_set (own_set2 o1 hr1 (by decide) 0 1 _ _) (p := ⟨w.heap.size, 2, none⟩) (fun e => own_ne o1 hr1 (by decide) e) _) (by simp), OwnI.mono (own_set (own_set2 o2 hr1 (by decide) 0 1 _ _) (p := ⟨w.heap.size, 2, none⟩) (fun e => own_ne o2 hr1 (by decide) e) _) (by simp), by (repeat' (first | (with_reducible exact Below.refl _ _) | (with_reducible assumption) | (with_reducible refine below_drewN ?_ _) | (with_reducible refine below_new ?_ _) | (with_reducible refine Below.alloc ?_ ?_ _) | (with_reducible refine Below.drew ?_) | (with_reducible refine Below.setCell ?_ ?_ _) | (with_reducible apply below_at; (case k => (with_reducible assumption)); (case hB => omega)) | (with_reducible apply below_on; (with_reducible assumption)) | (go_size; done) | (with_reducible apply size_of)))⟩
theorem rNew_any (l : Int) (w : World) : Calls Try.prog 18 #[.int .i64 l] w fun e w' => ∃ A B lp ln c d, e = .returned (.tuple #[.agg #[.int .i32 (newR l).l, .slice A lp c, .slice B ln d], .int .i64 (newE l)]) ∧ AdIn w' A B lp ln (newR l) ∧ lp ≤ c ∧ ln ≤ d ∧ Below w.heap.size w w' := by
  cases h : newOk l
  · have e1 : newE l = 2 := by rw [newE, if_neg (by rw [h]; decide)]
    have e2 : newR l = zeroA := by rw [newR, if_neg (by rw [h]; decide)]
    rw [e1, e2]
    refine (rNew_bad l w h).mono ?_
    rintro e w' ⟨rfl, hb'⟩
    exact ⟨none, none, 0, 0, 0, 0, rfl, zero_in w', Nat.le_refl _, Nat.le_refl _, hb'⟩
  · have e1 : newE l = 0 := by rw [newE, if_pos h]
    have e2 : newR l = newA l := by rw [newR, if_pos h]
    rw [e1, e2]
    have hl := (newOk_iff l).1 h
    have hr := ok_rows (newA_ok h)
    refine (rNew_ok l w hl.1 hl.2).mono ?_
    rintro e w' ⟨A, B, c, d, rfl, o1, o2, hb'⟩
    refine ⟨A, B, 193, 193, c, d, by rw [newA_l], ⟨by rw [newA_l]; omega, by rw [newA_l]; omega, by rw [newA_p]; exact o1.has, by rw [newA_p, repZ_len], by rw [newA_n]; exact o2.has, by rw [newA_n, repZ_len], by omega, by omega, hr.1, hr.2⟩, o1.capLe.1, o2.capLe.1, hb'⟩
end Go.Proofs.Ytipbafcjmeibpaa.adW
