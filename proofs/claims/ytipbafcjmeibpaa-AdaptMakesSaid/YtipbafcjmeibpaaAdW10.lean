/- Update of adaptive maps, by walks. -/
import Derived.Test.YtipbafcjmeibpaaAdW5
import Derived.Test.YtipbafcjmeibpaaAdW6
namespace Go.Proofs.Ytipbafcjmeibpaa.adW
open Go.RowKit Go.Proofs.Ytipbafcjmeibpaa.base Go.Proofs.Ytipbafcjmeibpaa.adP
set_option linter.unusedVariables false
set_option linter.unusedSimpArgs false

theorem fits_of {m : Ad} {s b : Int} (h : atE m s = 0) (s0 : 0 ≤ s) (b0 : 0 ≤ b) (b1 : b ≤ 1) : Fits m s b := by
  obtain ⟨ha, hs⟩ := (atE_zero m s).1 h
  exact ⟨ha, s0, hs, by omega⟩
theorem ad_len {w : World} {A B : Option Addr} {lp ln : Nat} {m : Ad} (h : AdIn w A B lp ln m) (ha : adOk m = true) : lp = 193 ∧ ln = 193 := by
  rw [adOk_iff] at ha
  exact ⟨by rw [← h.ep, ha.1.2.2.1], by rw [← h.en, ha.1.2.2.2]⟩
set_option maxHeartbeats 1000000 in
theorem Update_bad (m : Ad) (A B : Option Addr) (lp ln cp cn : Nat) (s b : Int) (w : World) (h : AdIn w A B lp ln m) (s0 : 0 ≤ s) (s1 : s ≤ 255) (hk : atE m s ≠ 0) :
    Calls Try.prog 12 #[.agg #[.int .i32 (m).l, .slice A lp cp, .slice B ln cn], .int .u8 s, .int .u8 b] w fun e w' => e = .returned (.tuple #[.agg #[.int .i32 (zeroA).l, .slice none 0 0, .slice none 0 0], .int .i64 (atE m s)]) ∧ Below w.heap.size w w' := by
  have H := Lib.hid h
  clear h
  obtain ⟨e, he, hne⟩ : ∃ e, atE m s = e ∧ (e != 0) = true := ⟨_, rfl, by simpa using hk⟩
  have HE := Lib.hid he
  clear hk he
  rw [HE.out]
  go_enter Try.func12, Try.ntmps12
  go_wp2_with (first | (go_at_call 28; refine (checkAt_any m A B lp ln cp cn s _ (H.out.below (by (repeat' (first | (with_reducible exact Below.refl _ _) | (with_reducible assumption) | (with_reducible refine below_drewN ?_ _) | (with_reducible refine below_new ?_ _) | (with_reducible refine Below.alloc ?_ ?_ _) | (with_reducible refine Below.drew ?_) | (with_reducible refine Below.setCell ?_ ?_ _) | (with_reducible apply below_at; (case k => (with_reducible assumption)); (case hB => omega)) | (with_reducible apply below_on; (with_reducible assumption)) | (go_size; done) | (with_reducible apply size_of))))) s0 s1).mono ?_; rintro e1 w1 ⟨rfl, hb1⟩; rw [HE.out]; have hr1 : Lies (w1) (w.heap.size + 1) 24 [.int .i32 0, .slice none 0 0, .slice none 0 0] := (by (repeat' (first | (with_reducible assumption) | (with_reducible exact Lies.fresh _ _ _) | (with_reducible apply Lies.fresh_at; (first | (with_reducible rfl) | (simp; done))) | (with_reducible refine Lies.drew ?_) | (with_reducible refine Lies.drewN ?_ _) | (with_reducible refine Lies.alloc ?_ _) | (with_reducible apply Lies.past; case hb => (with_reducible assumption)) | (with_reducible apply Lies.keeps; (case k => (with_reducible assumption)); (case ht => decide)) | (with_reducible apply Lies.store3) | (with_reducible apply Lies.other; case hp => (first | omega | (simp; done) | (simp; omega)))))); obtain ⟨r0, r1, r2, f0, f1, f2⟩ := hr1.three))
  obtain ⟨t0, t1, t2, -, -, -⟩ := (hr1.store3 (a := .int .i32 0) (b := .slice none 0 0) (c := .slice none 0 0)).three
  refine bodyPost_ret (by simp [results, Try.results12, go_sem, t0, t1, t2]; try rfl) rfl ?_
  exact ⟨rfl, by (repeat' (first | (with_reducible exact Below.refl _ _) | (with_reducible assumption) | (with_reducible refine below_drewN ?_ _) | (with_reducible refine below_new ?_ _) | (with_reducible refine Below.alloc ?_ ?_ _) | (with_reducible refine Below.drew ?_) | (with_reducible refine Below.setCell ?_ ?_ _) | (with_reducible apply below_at; (case k => (with_reducible assumption)); (case hB => omega)) | (with_reducible apply below_on; (with_reducible assumption)) | (go_size; done) | (with_reducible apply size_of)))⟩
set_option maxHeartbeats 1000000 in
theorem Update_bit (m : Ad) (A B : Option Addr) (lp ln cp cn : Nat) (s b : Int) (w : World) (h : AdIn w A B lp ln m) (s0 : 0 ≤ s) (s1 : s ≤ 255) (hk : atE m s = 0) (hb : 1 < b) :
    Calls Try.prog 12 #[.agg #[.int .i32 (m).l, .slice A lp cp, .slice B ln cn], .int .u8 s, .int .u8 b] w fun e w' => e = .returned (.tuple #[.agg #[.int .i32 (zeroA).l, .slice none 0 0, .slice none 0 0], .int .i64 2]) ∧ Below w.heap.size w w' := by
  have H := Lib.hid h
  have HE := Lib.hid hk
  clear h hk
  go_enter Try.func12, Try.ntmps12
  go_wp2_with (first | (go_at_call 28; refine (checkAt_any m A B lp ln cp cn s _ (H.out.below (by (repeat' (first | (with_reducible exact Below.refl _ _) | (with_reducible assumption) | (with_reducible refine below_drewN ?_ _) | (with_reducible refine below_new ?_ _) | (with_reducible refine Below.alloc ?_ ?_ _) | (with_reducible refine Below.drew ?_) | (with_reducible refine Below.setCell ?_ ?_ _) | (with_reducible apply below_at; (case k => (with_reducible assumption)); (case hB => omega)) | (with_reducible apply below_on; (with_reducible assumption)) | (go_size; done) | (with_reducible apply size_of))))) s0 s1).mono ?_; rintro e1 w1 ⟨rfl, hb1⟩; rw [HE.out]; have hr1 : Lies (w1) (w.heap.size + 1) 24 [.int .i32 0, .slice none 0 0, .slice none 0 0] := (by (repeat' (first | (with_reducible assumption) | (with_reducible exact Lies.fresh _ _ _) | (with_reducible apply Lies.fresh_at; (first | (with_reducible rfl) | (simp; done))) | (with_reducible refine Lies.drew ?_) | (with_reducible refine Lies.drewN ?_ _) | (with_reducible refine Lies.alloc ?_ _) | (with_reducible apply Lies.past; case hb => (with_reducible assumption)) | (with_reducible apply Lies.keeps; (case k => (with_reducible assumption)); (case ht => decide)) | (with_reducible apply Lies.store3) | (with_reducible apply Lies.other; case hp => (first | omega | (simp; done) | (simp; omega)))))); obtain ⟨r0, r1, r2, f0, f1, f2⟩ := hr1.three))
  obtain ⟨t0, t1, t2, -, -, -⟩ := (hr1.store3 (a := .int .i32 0) (b := .slice none 0 0) (c := .slice none 0 0)).three
  refine bodyPost_ret (by simp [results, Try.results12, go_sem, t0, t1, t2]; try rfl) rfl ?_
  exact ⟨rfl, by (repeat' (first | (with_reducible exact Below.refl _ _) | (with_reducible assumption) | (with_reducible refine below_drewN ?_ _) | (with_reducible refine below_new ?_ _) | (with_reducible refine Below.alloc ?_ ?_ _) | (with_reducible refine Below.drew ?_) | (with_reducible refine Below.setCell ?_ ?_ _) | (with_reducible apply below_at; (case k => (with_reducible assumption)); (case hB => omega)) | (with_reducible apply below_on; (with_reducible assumption)) | (go_size; done) | (with_reducible apply size_of)))⟩
set_option maxHeartbeats 2000000 in
theorem Update_ok (m : Ad) (A B : Option Addr) (cp cn : Nat) (s b : Int) (w : World) (h : AdIn w A B 193 193 m) (hcp : 193 ≤ cp) (hcn : 193 ≤ cn) (s0 : 0 ≤ s) (s1 : s ≤ 255) (hk : atE m s = 0) (F : Fits m s b) (b0 : 0 ≤ b) (b1 : b ≤ 1) :
    Calls Try.prog 12 #[.agg #[.int .i32 (m).l, .slice A 193 cp, .slice B 193 cn], .int .u8 s, .int .u8 b] w fun e w' => ∃ gp gn c d, e = .returned (.tuple #[.agg #[.int .i32 (m).l, .slice (some ⟨gp, 0, none⟩) 193 c, .slice (some ⟨gn, 0, none⟩) 193 d], .int .i64 0]) ∧ AdOwn w' w.heap.size gp gn c d (mv m s b) ∧ Below w.heap.size w w' := by
  have H := Lib.hid h
  have HE := Lib.hid hk
  have HF := Lib.hid F
  clear h hk F
  go_enter Try.func12, Try.ntmps12
  go_wp2_with (first
    | (go_at_call 28; refine (checkAt_any m A B 193 193 cp cn s _ (H.out.below (by (repeat' (first | (with_reducible exact Below.refl _ _) | (with_reducible assumption) | (with_reducible refine below_drewN ?_ _) | (with_reducible refine below_new ?_ _) | (with_reducible refine Below.alloc ?_ ?_ _) | (with_reducible refine Below.drew ?_) | (with_reducible refine Below.setCell ?_ ?_ _) | (with_reducible apply below_at; (case k => (with_reducible assumption)); (case hB => omega)) | (with_reducible apply below_on; (with_reducible assumption)) | (go_size; done) | (with_reducible apply size_of))))) s0 s1).mono ?_; rintro e1 w1 ⟨rfl, hb1⟩; rw [HE.out]; have hr1 : Lies (w1) (w.heap.size + 1) 24 [.int .i32 0, .slice none 0 0, .slice none 0 0] := (by (repeat' (first | (with_reducible assumption) | (with_reducible exact Lies.fresh _ _ _) | (with_reducible apply Lies.fresh_at; (first | (with_reducible rfl) | (simp; done))) | (with_reducible refine Lies.drew ?_) | (with_reducible refine Lies.drewN ?_ _) | (with_reducible refine Lies.alloc ?_ _) | (with_reducible apply Lies.past; case hb => (with_reducible assumption)) | (with_reducible apply Lies.keeps; (case k => (with_reducible assumption)); (case ht => decide)) | (with_reducible apply Lies.store3) | (with_reducible apply Lies.other; case hp => (first | omega | (simp; done) | (simp; omega)))))); have hk1 : Lies w1 w.heap.size 24 [.int .i32 m.l, .slice A 193 cp, .slice B 193 cn] := (by (repeat' (first | (with_reducible assumption) | (with_reducible exact Lies.fresh _ _ _) | (with_reducible apply Lies.fresh_at; (first | (with_reducible rfl) | (simp; done))) | (with_reducible refine Lies.drew ?_) | (with_reducible refine Lies.drewN ?_ _) | (with_reducible refine Lies.alloc ?_ _) | (with_reducible apply Lies.past; case hb => (with_reducible assumption)) | (with_reducible apply Lies.keeps; (case k => (with_reducible assumption)); (case ht => decide)) | (with_reducible apply Lies.store3) | (with_reducible apply Lies.other; case hp => (first | omega | (simp; done) | (simp; omega)))))); have lk1 := hk1.lt; have lr1 := hr1.lt; obtain ⟨r0, r1, r2, f0, f1, f2⟩ := hr1.three; obtain ⟨p0, p1, p2, -, -, -⟩ := hk1.three)
    | (go_at_call 29; refine (clone_ok m A B cp cn _ (H.out.below (by (repeat' (first | (with_reducible exact Below.refl _ _) | (with_reducible assumption) | (with_reducible refine below_drewN ?_ _) | (with_reducible refine below_new ?_ _) | (with_reducible refine Below.alloc ?_ ?_ _) | (with_reducible refine Below.drew ?_) | (with_reducible refine Below.setCell ?_ ?_ _) | (with_reducible apply below_at; (case k => (with_reducible assumption)); (case hB => omega)) | (with_reducible apply below_on; (with_reducible assumption)) | (go_size; done) | (with_reducible apply size_of))))) hcp hcn).mono ?_; rintro e1 w2 ⟨gp, gn, c, d, rfl, O2, hb2⟩; have hr2 := hr1.past hb2; have lr2 := hr2.lt; have HO2 := Lib.hid O2; clear O2))
  refine (change_any m w1.heap.size w2.heap.size gp gn c d s b _ HF.out (by (repeat' (first | (with_reducible assumption) | (with_reducible exact Lies.fresh _ _ _) | (with_reducible apply Lies.fresh_at; (first | (with_reducible rfl) | (simp; done))) | (with_reducible refine Lies.drew ?_) | (with_reducible refine Lies.drewN ?_ _) | (with_reducible refine Lies.alloc ?_ _) | (with_reducible apply Lies.past; case hb => (with_reducible assumption)) | (with_reducible apply Lies.keeps; (case k => (with_reducible assumption)); (case ht => decide)) | (with_reducible apply Lies.store3) | (with_reducible apply Lies.other; case hp => (first | omega | (simp; done) | (simp; omega)))))) (HO2.out.alloc _) (by have := hb2.size; first | omega | (simp; omega))).mono ?_
  rintro e1 w3 ⟨rfl, k3, O3, hb3⟩
  have HO3 := Lib.hid O3
  have hr3 : Lies (w3) (w.heap.size + 1) 24 [.int .i32 0, .slice none 0 0, .slice none 0 0] := k3 _ _ _ (by (repeat' (first | (with_reducible assumption) | (with_reducible exact Lies.fresh _ _ _) | (with_reducible apply Lies.fresh_at; (first | (with_reducible rfl) | (simp; done))) | (with_reducible refine Lies.drew ?_) | (with_reducible refine Lies.drewN ?_ _) | (with_reducible refine Lies.alloc ?_ _) | (with_reducible apply Lies.past; case hb => (with_reducible assumption)) | (with_reducible apply Lies.keeps; (case k => (with_reducible assumption)); (case ht => decide)) | (with_reducible apply Lies.store3) | (with_reducible apply Lies.other; case hp => (first | omega | (simp; done) | (simp; omega)))))) (by decide)
  have hk3 : Lies (w3) (w2.heap.size) 24 [.int .i32 (m.l), .slice (some ⟨gp, 0, none⟩) 193 (c), .slice (some ⟨gn, 0, none⟩) 193 (d)] := k3 _ _ _ (by (repeat' (first | (with_reducible assumption) | (with_reducible exact Lies.fresh _ _ _) | (with_reducible apply Lies.fresh_at; (first | (with_reducible rfl) | (simp; done))) | (with_reducible refine Lies.drew ?_) | (with_reducible refine Lies.drewN ?_ _) | (with_reducible refine Lies.alloc ?_ _) | (with_reducible apply Lies.past; case hb => (with_reducible assumption)) | (with_reducible apply Lies.keeps; (case k => (with_reducible assumption)); (case ht => decide)) | (with_reducible apply Lies.store3) | (with_reducible apply Lies.other; case hp => (first | omega | (simp; done) | (simp; omega)))))) (by decide)
  have lr3 := hr3.lt
  obtain ⟨r0, r1, r2, f0, f1, f2⟩ := hr3.three
  obtain ⟨p0, p1, p2, -, -, -⟩ := hk3.three
  clear O3
  go_wp2_with fail
  have hr9 := hr3.store3 (a := .int .i32 m.l) (b := .slice (some ⟨gp, 0, none⟩) 193 c) (c := .slice (some ⟨gn, 0, none⟩) 193 d)
  obtain ⟨t0, t1, t2, -, -, -⟩ := hr9.three
  refine bodyPost_ret (by simp [results, Try.results12, go_sem, t0, t1, t2]; try rfl) rfl ?_
  refine ⟨gp, gn, c, d, rfl, (HO3.out.store3 hr3 (by decide)).mono (by have := hb1.size; simp at this; omega), ?_⟩
  have z1 := hb1.size
  have z2 := hb2.size
  simp at z1
  (repeat' (first | (with_reducible exact Below.refl _ _) | (with_reducible assumption) | (with_reducible refine below_drewN ?_ _) | (with_reducible refine below_new ?_ _) | (with_reducible refine Below.alloc ?_ ?_ _) | (with_reducible refine Below.drew ?_) | (with_reducible refine Below.setCell ?_ ?_ _) | (with_reducible apply below_at; (case k => (with_reducible assumption)); (case hB => omega)) | (with_reducible apply below_on; (with_reducible assumption)) | (go_size; done) | (with_reducible apply size_of)))
theorem Update_any (m : Ad) (A B : Option Addr) (lp ln cp cn : Nat) (s b : Int) (w : World) (h : AdIn w A B lp ln m) (hcp : lp ≤ cp) (hcn : ln ≤ cn) (s0 : 0 ≤ s) (s1 : s ≤ 255) (b0 : 0 ≤ b) :
    Calls Try.prog 12 #[.agg #[.int .i32 (m).l, .slice A lp cp, .slice B ln cn], .int .u8 s, .int .u8 b] w fun e w' => ∃ A' B' lp' ln' c d, e = .returned (.tuple #[.agg #[.int .i32 (upR m s b).l, .slice A' lp' c, .slice B' ln' d], .int .i64 (upE m s b)]) ∧ AdIn w' A' B' lp' ln' (upR m s b) ∧ lp' ≤ c ∧ ln' ≤ d ∧ Below w.heap.size w w' := by
  by_cases hk : atE m s = 0
  · by_cases hb : b ≤ 1
    · have F := fits_of hk s0 b0 hb
      obtain ⟨rfl, rfl⟩ := ad_len h F.ok
      have e1 : upE m s b = 0 := by rw [upE, if_pos hk, if_pos hb]
      have e2 : upR m s b = mv m s b := by rw [upR, if_pos e1]
      rw [e1, e2]
      refine (Update_ok m A B cp cn s b w h hcp hcn s0 s1 hk F b0 hb).mono ?_
      rintro e w' ⟨gp, gn, c, d, rfl, O, hb'⟩
      exact ⟨_, _, _, _, c, d, rfl, O.inOk (mv_ok F), O.capLe.1, O.capLe.2, hb'⟩
    · have e1 : upE m s b = 2 := by rw [upE, if_pos hk, if_neg hb]
      have e2 : upR m s b = zeroA := by rw [upR, if_neg (by rw [e1]; decide)]
      rw [e1, e2]
      refine (Update_bit m A B lp ln cp cn s b w h s0 s1 hk (by omega)).mono ?_
      rintro e w' ⟨rfl, hb'⟩
      exact ⟨none, none, 0, 0, 0, 0, rfl, zero_in w', Nat.le_refl _, Nat.le_refl _, hb'⟩
  · have e1 : upE m s b = atE m s := by rw [upE, if_neg hk]
    have e2 : upR m s b = zeroA := by rw [upR, if_neg (by rw [e1]; exact hk)]
    rw [e1, e2]
    refine (Update_bad m A B lp ln cp cn s b w h s0 s1 hk).mono ?_
    rintro e w' ⟨rfl, hb'⟩
    exact ⟨none, none, 0, 0, 0, 0, rfl, zero_in w', Nat.le_refl _, Nat.le_refl _, hb'⟩
end Go.Proofs.Ytipbafcjmeibpaa.adW
