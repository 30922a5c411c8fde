/- The reference's Update and Run of adaptive maps, by walks. -/
import Derived.Test.YtipbafcjmeibpaaAdW7
import Derived.Test.YtipbafcjmeibpaaAdW8
import Derived.Test.YtipbafcjmeibpaaAdW11
import Derived.Test.YtipbafcjmeibpaaStW2
namespace Go.Proofs.Ytipbafcjmeibpaa.adW
open Go.RowKit Go.Proofs.Ytipbafcjmeibpaa.base Go.Proofs.Ytipbafcjmeibpaa.adP Go.Proofs.Ytipbafcjmeibpaa.cntP Go.Proofs.Ytipbafcjmeibpaa.stP
open Go.Proofs.Ytipbafcjmeibpaa.stW (rThen_any)
open Go.Proofs.Ytipbafcjmeibpaa.cntW (bits_any)
set_option linter.unusedVariables false
set_option linter.unusedSimpArgs false

set_option maxHeartbeats 2000000 in
theorem rMoved_ok (m : Ad) (A B : Option Addr) (cp cn : Nat) (s b : Int) (w : World) (h : AdIn w A B 193 193 m) (F : Fits m s b) :
    Calls Try.prog 35 #[.agg #[.int .i32 (m).l, .slice A 193 cp, .slice B 193 cn], .int .u8 s, .int .u8 b] w fun e w' => ∃ gp gn c d, e = .returned (.agg #[.int .i32 (m).l, .slice (some ⟨gp, 0, none⟩) 193 c, .slice (some ⟨gn, 0, none⟩) 193 d]) ∧ AdOwn w' w.heap.size gp gn c d (mv m s b) ∧ Below w.heap.size w w' := by
  have H := Lib.hid h
  have HF := Lib.hid F
  clear h F
  go_enter Try.func35, Try.ntmps35
  go_wp2_with fail
  refine (Twin_own m A B cp cn _ (H.out.below (by (repeat' (first | (with_reducible exact Below.refl _ _) | (with_reducible assumption) | (with_reducible refine below_drewN ?_ _) | (with_reducible refine below_new ?_ _) | (with_reducible refine Below.alloc ?_ ?_ _) | (with_reducible refine Below.drew ?_) | (with_reducible refine Below.setCell ?_ ?_ _) | (with_reducible apply below_at; (case k => (with_reducible assumption)); (case hB => omega)) | (with_reducible apply below_on; (with_reducible assumption)) | (go_size; done) | (with_reducible apply size_of)))))).mono ?_
  rintro e w1 ⟨gp, gn, c, d, rfl, O1, hb1⟩
  have hr1 : Lies (w1) (w.heap.size + 1) 24 [.int .i32 0, .slice none 0 0, .slice none 0 0] := (by (repeat' (first | (with_reducible assumption) | (with_reducible exact Lies.fresh _ _ _) | (with_reducible apply Lies.fresh_at; (first | (with_reducible rfl) | (simp; done))) | (with_reducible refine Lies.drew ?_) | (with_reducible refine Lies.drewN ?_ _) | (with_reducible refine Lies.alloc ?_ _) | (with_reducible apply Lies.past; case hb => (with_reducible assumption)) | (with_reducible apply Lies.keeps; (case k => (with_reducible assumption)); (case ht => decide)) | (with_reducible apply Lies.store3) | (with_reducible apply Lies.other; case hp => (first | omega | (simp; done) | (simp; omega))))))
  have lr1 := hr1.lt
  have z1 := hb1.size
  simp at z1
  go_wp2_with fail
  refine (rMove_any m _ gp gn c d s b _ HF.out (O1.alloc _) (by have := z1; simp; omega)).mono ?_
  rintro e w2 ⟨rfl, k2, O2, hb2⟩
  have hr2 : Lies (w2) (w.heap.size + 1) 24 [.int .i32 0, .slice none 0 0, .slice none 0 0] := k2 _ _ _ (by (repeat' (first | (with_reducible assumption) | (with_reducible exact Lies.fresh _ _ _) | (with_reducible apply Lies.fresh_at; (first | (with_reducible rfl) | (simp; done))) | (with_reducible refine Lies.drew ?_) | (with_reducible refine Lies.drewN ?_ _) | (with_reducible refine Lies.alloc ?_ _) | (with_reducible apply Lies.past; case hb => (with_reducible assumption)) | (with_reducible apply Lies.keeps; (case k => (with_reducible assumption)); (case ht => decide)) | (with_reducible apply Lies.store3) | (with_reducible apply Lies.other; case hp => (first | omega | (simp; done) | (simp; omega)))))) (by decide)
  have hk2 : Lies (w2) (w1.heap.size) 24 [.int .i32 (m.l), .slice (some ⟨gp, 0, none⟩) 193 (c), .slice (some ⟨gn, 0, none⟩) 193 (d)] := k2 _ _ _ (by (repeat' (first | (with_reducible assumption) | (with_reducible exact Lies.fresh _ _ _) | (with_reducible apply Lies.fresh_at; (first | (with_reducible rfl) | (simp; done))) | (with_reducible refine Lies.drew ?_) | (with_reducible refine Lies.drewN ?_ _) | (with_reducible refine Lies.alloc ?_ _) | (with_reducible apply Lies.past; case hb => (with_reducible assumption)) | (with_reducible apply Lies.keeps; (case k => (with_reducible assumption)); (case ht => decide)) | (with_reducible apply Lies.store3) | (with_reducible apply Lies.other; case hp => (first | omega | (simp; done) | (simp; omega)))))) (by decide)
  have lr2 := hr2.lt
  obtain ⟨r0, r1, r2, f0, f1, f2⟩ := hr2.three
  obtain ⟨p0, p1, p2, -, -, -⟩ := hk2.three
  go_wp2_with fail
  obtain ⟨t0, t1, t2, -, -, -⟩ := (hr2.store3 (a := .int .i32 m.l) (b := .slice (some ⟨gp, 0, none⟩) 193 c) (c := .slice (some ⟨gn, 0, none⟩) 193 d)).three
  refine bodyPost_ret (by simp [results, Try.results35, go_sem, t0, t1, t2]; try rfl) rfl ?_
  refine ⟨gp, gn, c, d, rfl, (O2.store3 hr2 (by decide)).mono (by simp; omega), ?_⟩
  have hb2' : Below w.heap.size (w1.alloc (.cells #[.int .i32 m.l, .slice (some ⟨gp, 0, none⟩) 193 c, .slice (some ⟨gn, 0, none⟩) 193 d] 24)) w2 := hb2.mono (by simp; omega)
  have hb1' : Below w.heap.size w w1 := by (repeat' (first | (with_reducible exact Below.refl _ _) | (with_reducible assumption) | (with_reducible refine below_drewN ?_ _) | (with_reducible refine below_new ?_ _) | (with_reducible refine Below.alloc ?_ ?_ _) | (with_reducible refine Below.drew ?_) | (with_reducible refine Below.setCell ?_ ?_ _) | (with_reducible apply below_at; (case k => (with_reducible assumption)); (case hB => omega)) | (with_reducible apply below_on; (with_reducible assumption)) | (go_size; done) | (with_reducible apply size_of)))
  have hb3 : Below w.heap.size w w2 := (Below.alloc hb1' (by omega) _).trans hb2'
  (repeat' (first | (with_reducible exact Below.refl _ _) | (with_reducible assumption) | (with_reducible refine below_drewN ?_ _) | (with_reducible refine below_new ?_ _) | (with_reducible refine Below.alloc ?_ ?_ _) | (with_reducible refine Below.drew ?_) | (with_reducible refine Below.setCell ?_ ?_ _) | (with_reducible apply below_at; (case k => (with_reducible assumption)); (case hB => omega)) | (with_reducible apply below_on; (with_reducible assumption)) | (go_size; done) | (with_reducible apply size_of)))
set_option maxHeartbeats 2000000 in
theorem rUpdate_any (m : Ad) (A B : Option Addr) (lp ln cp cn : Nat) (s b : Int) (w : World) (h : AdIn w A B lp ln m) (s0 : 0 ≤ s) (s1 : s ≤ 255) (b0 : 0 ≤ b) :
    Calls Try.prog 20 #[.agg #[.int .i32 (m).l, .slice A lp cp, .slice B ln cn], .int .u8 s, .int .u8 b] w fun e w' => ∃ A' B' lp' ln' c d, e = .returned (.tuple #[.agg #[.int .i32 (upR m s b).l, .slice A' lp' c, .slice B' ln' d], .int .i64 (upE m s b)]) ∧ AdIn w' A' B' lp' ln' (upR m s b) ∧ lp' ≤ c ∧ ln' ≤ d ∧ Below w.heap.size w w' := by
  have H := Lib.hid h
  by_cases hk : atE m s = 0
  · by_cases hb : b ≤ 1
    · have F := fits_of hk s0 b0 hb
      obtain ⟨rfl, rfl⟩ := ad_len h F.ok
      have e1 : upE m s b = 0 := by rw [upE, if_pos hk, if_pos hb]
      have e2 : upR m s b = mv m s b := by rw [upR, if_pos e1]
      rw [e1, e2]
      have HE := Lib.hid hk
      have HF := Lib.hid F
      clear h hk F e1 e2
      go_enter Try.func20, Try.ntmps20
      go_wp2_with fail
      refine (rAt_any m A B 193 193 cp cn s _ (H.out.below (by (repeat' (first | (with_reducible exact Below.refl _ _) | (with_reducible assumption) | (with_reducible refine below_drewN ?_ _) | (with_reducible refine below_new ?_ _) | (with_reducible refine Below.alloc ?_ ?_ _) | (with_reducible refine Below.drew ?_) | (with_reducible refine Below.setCell ?_ ?_ _) | (with_reducible apply below_at; (case k => (with_reducible assumption)); (case hB => omega)) | (with_reducible apply below_on; (with_reducible assumption)) | (go_size; done) | (with_reducible apply size_of))))) s0 s1).mono ?_
      rintro e w1 ⟨rfl, hb1⟩
      rw [HE.out]
      have hr1 : Lies (w1) (w.heap.size + 1) 24 [.int .i32 0, .slice none 0 0, .slice none 0 0] := (by (repeat' (first | (with_reducible assumption) | (with_reducible exact Lies.fresh _ _ _) | (with_reducible apply Lies.fresh_at; (first | (with_reducible rfl) | (simp; done))) | (with_reducible refine Lies.drew ?_) | (with_reducible refine Lies.drewN ?_ _) | (with_reducible refine Lies.alloc ?_ _) | (with_reducible apply Lies.past; case hb => (with_reducible assumption)) | (with_reducible apply Lies.keeps; (case k => (with_reducible assumption)); (case ht => decide)) | (with_reducible apply Lies.store3) | (with_reducible apply Lies.other; case hp => (first | omega | (simp; done) | (simp; omega))))))
      have hk1 : Lies w1 w.heap.size 24 [.int .i32 m.l, .slice A 193 cp, .slice B 193 cn] := (by (repeat' (first | (with_reducible assumption) | (with_reducible exact Lies.fresh _ _ _) | (with_reducible apply Lies.fresh_at; (first | (with_reducible rfl) | (simp; done))) | (with_reducible refine Lies.drew ?_) | (with_reducible refine Lies.drewN ?_ _) | (with_reducible refine Lies.alloc ?_ _) | (with_reducible apply Lies.past; case hb => (with_reducible assumption)) | (with_reducible apply Lies.keeps; (case k => (with_reducible assumption)); (case ht => decide)) | (with_reducible apply Lies.store3) | (with_reducible apply Lies.other; case hp => (first | omega | (simp; done) | (simp; omega))))))
      have lk1 := hk1.lt
      have lr1 := hr1.lt
      obtain ⟨p0, p1, p2, -, -, -⟩ := hk1.three
      go_wp2_with fail
      refine (rMoved_ok m A B cp cn s b _ (H.out.below (by (repeat' (first | (with_reducible exact Below.refl _ _) | (with_reducible assumption) | (with_reducible refine below_drewN ?_ _) | (with_reducible refine below_new ?_ _) | (with_reducible refine Below.alloc ?_ ?_ _) | (with_reducible refine Below.drew ?_) | (with_reducible refine Below.setCell ?_ ?_ _) | (with_reducible apply below_at; (case k => (with_reducible assumption)); (case hB => omega)) | (with_reducible apply below_on; (with_reducible assumption)) | (go_size; done) | (with_reducible apply size_of))))) HF.out).mono ?_
      rintro e w2 ⟨gp, gn, c, d, rfl, O2, hb2⟩
      have hr2 := hr1.past hb2
      have lr2 := hr2.lt
      obtain ⟨r0, r1, r2, f0, f1, f2⟩ := hr2.three
      have hcap := O2.capLe
      go_wp2_with fail
      obtain ⟨t0, t1, t2, -, -, -⟩ := (hr2.store3 (a := .int .i32 m.l) (b := .slice (some ⟨gp, 0, none⟩) 193 c) (c := .slice (some ⟨gn, 0, none⟩) 193 d)).three
      refine bodyPost_ret (by simp [results, Try.results20, go_sem, t0, t1, t2]; try rfl) rfl ?_
      exact ⟨_, _, _, _, c, d, rfl, (O2.store3 hr2 (by decide)).inOk (mv_ok HF.out), hcap.1, hcap.2, by (repeat' (first | (with_reducible exact Below.refl _ _) | (with_reducible assumption) | (with_reducible refine below_drewN ?_ _) | (with_reducible refine below_new ?_ _) | (with_reducible refine Below.alloc ?_ ?_ _) | (with_reducible refine Below.drew ?_) | (with_reducible refine Below.setCell ?_ ?_ _) | (with_reducible apply below_at; (case k => (with_reducible assumption)); (case hB => omega)) | (with_reducible apply below_on; (with_reducible assumption)) | (go_size; done) | (with_reducible apply size_of)))⟩
    · have e1 : upE m s b = 2 := by rw [upE, if_pos hk, if_neg hb]
      have e2 : upR m s b = zeroA := by rw [upR, if_neg (by rw [e1]; decide)]
      rw [e1, e2]
      have HE := Lib.hid hk
      have hb' : 1 < b := by omega
      clear h hk e1 e2 hb
      go_enter Try.func20, Try.ntmps20
      go_wp2_with fail
      refine (rAt_any m A B lp ln cp cn s _ (H.out.below (by (repeat' (first | (with_reducible exact Below.refl _ _) | (with_reducible assumption) | (with_reducible refine below_drewN ?_ _) | (with_reducible refine below_new ?_ _) | (with_reducible refine Below.alloc ?_ ?_ _) | (with_reducible refine Below.drew ?_) | (with_reducible refine Below.setCell ?_ ?_ _) | (with_reducible apply below_at; (case k => (with_reducible assumption)); (case hB => omega)) | (with_reducible apply below_on; (with_reducible assumption)) | (go_size; done) | (with_reducible apply size_of))))) s0 s1).mono ?_
      rintro e w1 ⟨rfl, hb1⟩
      rw [HE.out]
      have hr1 : Lies (w1) (w.heap.size + 1) 24 [.int .i32 0, .slice none 0 0, .slice none 0 0] := (by (repeat' (first | (with_reducible assumption) | (with_reducible exact Lies.fresh _ _ _) | (with_reducible apply Lies.fresh_at; (first | (with_reducible rfl) | (simp; done))) | (with_reducible refine Lies.drew ?_) | (with_reducible refine Lies.drewN ?_ _) | (with_reducible refine Lies.alloc ?_ _) | (with_reducible apply Lies.past; case hb => (with_reducible assumption)) | (with_reducible apply Lies.keeps; (case k => (with_reducible assumption)); (case ht => decide)) | (with_reducible apply Lies.store3) | (with_reducible apply Lies.other; case hp => (first | omega | (simp; done) | (simp; omega))))))
      obtain ⟨r0, r1, r2, f0, f1, f2⟩ := hr1.three
      go_wp2_with fail
      obtain ⟨t0, t1, t2, -, -, -⟩ := (hr1.store3 (a := .int .i32 0) (b := .slice none 0 0) (c := .slice none 0 0)).three
      refine bodyPost_ret (by simp [results, Try.results20, go_sem, t0, t1, t2]; try rfl) rfl ?_
      exact ⟨none, none, 0, 0, 0, 0, rfl, zero_in _, Nat.le_refl _, Nat.le_refl _, by (repeat' (first | (with_reducible exact Below.refl _ _) | (with_reducible assumption) | (with_reducible refine below_drewN ?_ _) | (with_reducible refine below_new ?_ _) | (with_reducible refine Below.alloc ?_ ?_ _) | (with_reducible refine Below.drew ?_) | (with_reducible refine Below.setCell ?_ ?_ _) | (with_reducible apply below_at; (case k => (with_reducible assumption)); (case hB => omega)) | (with_reducible apply below_on; (with_reducible assumption)) | (go_size; done) | (with_reducible apply size_of)))⟩
  · have e1 : upE m s b = atE m s := by rw [upE, if_neg hk]
    have e2 : upR m s b = zeroA := by rw [upR, if_neg (by rw [e1]; exact hk)]
    rw [e1, e2]
    obtain ⟨e, he, hne⟩ : ∃ e, atE m s = e ∧ (e != 0) = true := ⟨_, rfl, by simpa using hk⟩
    have HE := Lib.hid he
    clear h hk he e1 e2
    rw [HE.out]
    go_enter Try.func20, Try.ntmps20
    go_wp2_with fail
    refine (rAt_any m A B lp ln cp cn s _ (H.out.below (by (repeat' (first | (with_reducible exact Below.refl _ _) | (with_reducible assumption) | (with_reducible refine below_drewN ?_ _) | (with_reducible refine below_new ?_ _) | (with_reducible refine Below.alloc ?_ ?_ _) | (with_reducible refine Below.drew ?_) | (with_reducible refine Below.setCell ?_ ?_ _) | (with_reducible apply below_at; (case k => (with_reducible assumption)); (case hB => omega)) | (with_reducible apply below_on; (with_reducible assumption)) | (go_size; done) | (with_reducible apply size_of))))) s0 s1).mono ?_
    rintro e1 w1 ⟨rfl, hb1⟩
    rw [HE.out]
    have hr1 : Lies (w1) (w.heap.size + 1) 24 [.int .i32 0, .slice none 0 0, .slice none 0 0] := (by (repeat' (first | (with_reducible assumption) | (with_reducible exact Lies.fresh _ _ _) | (with_reducible apply Lies.fresh_at; (first | (with_reducible rfl) | (simp; done))) | (with_reducible refine Lies.drew ?_) | (with_reducible refine Lies.drewN ?_ _) | (with_reducible refine Lies.alloc ?_ _) | (with_reducible apply Lies.past; case hb => (with_reducible assumption)) | (with_reducible apply Lies.keeps; (case k => (with_reducible assumption)); (case ht => decide)) | (with_reducible apply Lies.store3) | (with_reducible apply Lies.other; case hp => (first | omega | (simp; done) | (simp; omega))))))
    obtain ⟨r0, r1, r2, f0, f1, f2⟩ := hr1.three
    go_wp2_with fail
    obtain ⟨t0, t1, t2, -, -, -⟩ := (hr1.store3 (a := .int .i32 0) (b := .slice none 0 0) (c := .slice none 0 0)).three
    refine bodyPost_ret (by simp [results, Try.results20, go_sem, t0, t1, t2]; try rfl) rfl ?_
    exact ⟨none, none, 0, 0, 0, 0, rfl, zero_in _, Nat.le_refl _, Nat.le_refl _, by (repeat' (first | (with_reducible exact Below.refl _ _) | (with_reducible assumption) | (with_reducible refine below_drewN ?_ _) | (with_reducible refine below_new ?_ _) | (with_reducible refine Below.alloc ?_ ?_ _) | (with_reducible refine Below.drew ?_) | (with_reducible refine Below.setCell ?_ ?_ _) | (with_reducible apply below_at; (case k => (with_reducible assumption)); (case hB => omega)) | (with_reducible apply below_on; (with_reducible assumption)) | (go_size; done) | (with_reducible apply size_of)))⟩
end Go.Proofs.Ytipbafcjmeibpaa.adW
