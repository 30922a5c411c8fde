/- FinderOnly, by a walk. -/
import Derived.Test.YtbdipdnnjbpibaaFdL2
namespace Go.Proofs.Ytbdipdnnjbpibaa.fdL
open Go.RowKit Go.Proofs.Ytbdipdnnjbpibaa.base Go.Proofs.Ytbdipdnnjbpibaa.rgP Go.Proofs.Ytbdipdnnjbpibaa.fdP Go.Proofs.Ytbdipdnnjbpibaa.fdW Go.Proofs.Ytbdipdnnjbpibaa.hashW
set_option linter.unusedVariables false
set_option linter.unusedSimpArgs false

theorem only_facts {f : Fnd} (hok : fdOk f = true) (x y k m : Int) (k0 : 0 ≤ k) (k1 : k ≤ 1073741824) (m0 : 0 ≤ m) (m1 : m ≤ 1073741824) (p q : Nat) (hp : plc f x = p) (hq : plc f y = q) :
    (fputE f k = 0 ∧ fputV f x k = ⟨f.l, f.s.set p k⟩ ∧ fputE f m = 0 ∧ fputV f x m = ⟨f.l, f.s.set p m⟩ ∧ fputE ⟨f.l, f.s.set p k⟩ m = 0 ∧ fputV ⟨f.l, f.s.set p k⟩ x m = ⟨f.l, f.s.set p m⟩) ∧ fdOk ⟨f.l, f.s.set p k⟩ = true ∧ findV f y = f.s.getD q 0 ∧ findV ⟨f.l, f.s.set p k⟩ y = (f.s.set p k).getD q 0 := by
  have e1 : fputE f k = 0 := by rw [fputE, if_pos hok, if_pos ⟨k0, k1⟩]
  have e2 : fputE f m = 0 := by rw [fputE, if_pos hok, if_pos ⟨m0, m1⟩]
  have f1 : fput f x k = ⟨f.l, f.s.set p k⟩ := by unfold fput; rw [hp]
  have ok2 : fdOk ⟨f.l, f.s.set p k⟩ = true := by rw [← f1]; exact fput_ok hok k0 k1
  have pl : ∀ z, plc ⟨f.l, f.s.set p k⟩ z = plc f z := fun z => by unfold plc; simp
  have e3 : fputE ⟨f.l, f.s.set p k⟩ m = 0 := by rw [fputE, if_pos ok2, if_pos ⟨m0, m1⟩]
  refine ⟨⟨e1, by rw [fputV, if_pos e1, f1], e2, by rw [fputV, if_pos e2]; unfold fput; rw [hp], e3, ?_⟩, ok2, by rw [findV, if_pos hok, hq], by rw [findV, if_pos ok2, pl, hq]⟩
  rw [fputV, if_pos e3]
  unfold fput
  rw [pl, hp]
  simp
set_option maxRecDepth 100000 in
set_option maxHeartbeats 3000000 in
theorem only (A : Option Addr) (n c : Nat) (f : Fnd) (x y k m : Int) (w : World) (h : FdIn w A n c f) (x1 : 0 ≤ x) (x2 : x ≤ 4294967295) (y1 : 0 ≤ y) (y2 : y ≤ 4294967295) (k1 : -9223372036854775808 ≤ k) (k2 : k ≤ 9223372036854775807) (m1 : -9223372036854775808 ≤ m) (m2 : m ≤ 9223372036854775807) :
    Calls Try.prog 8 #[.agg #[.int .i64 (f).l, .slice A n c], .int .u32 x, .int .u32 y, .int .i64 k, .int .i64 m] w fun e w' => e = .returned (.bool true) ∧ Below w.heap.size w w' := by
  have H := Lib.hid h
  have HM := Lib.hid (fin_cap h)
  by_cases hg : 8300 < n
  · have HG := Lib.hid (decide_eq_true hg)
    clear h hg
    go_enter Try.func8, Try.ntmps8
    go_wp2_with (first | (go_at_call 19; refine (rGreat_any f A n c _ HM.out).mono ?_; rintro e w1 ⟨rfl, hb1⟩; rw [HG.out]; have K1 : Lies (w1) (w.heap.size) 24 [.int .i64 (f).l, .slice (A) (n) (c)] := (by (repeat' (first | (with_reducible assumption) | (with_reducible exact Lies.fresh _ _ _) | (with_reducible apply Lies.fresh_at; (first | (with_reducible rfl) | (simp; done))) | (with_reducible refine Lies.drew ?_) | (with_reducible refine Lies.drewN ?_ _) | (with_reducible refine Lies.alloc ?_ _) | (with_reducible apply Lies.past; case hb => (with_reducible assumption)) | (with_reducible apply Lies.keeps; (case k => (with_reducible assumption)); (case ht => decide)) | (with_reducible apply Lies.store3) | (with_reducible apply Lies.other; case hp => (first | omega | (simp; done) | (simp; omega)))))); obtain ⟨p0, p1, -, -⟩ := K1.two) | (go_at_call 18; refine (alive _).mono ?_; rintro e wz ⟨rfl, hbz⟩))
    go_ret
    exact ⟨rfl, by (repeat' (first | (with_reducible exact Below.refl _ _) | (with_reducible assumption) | (with_reducible refine below_drewN ?_ _) | (with_reducible refine below_new ?_ _) | (with_reducible refine Below.alloc ?_ ?_ _) | (with_reducible refine Below.drew ?_) | (with_reducible refine Below.setCell ?_ ?_ _) | (with_reducible apply below_at; (case k => (with_reducible assumption)); (case hB => omega)) | (with_reducible apply below_on; (with_reducible assumption)) | (go_size; done) | (with_reducible apply size_of)))⟩
  have HG := Lib.hid (decide_eq_false hg)
  clear hg
  cases hok : fdOk f
  · have e1 := fdE_no hok
    clear h hok
    go_enter Try.func8, Try.ntmps8
    go_wp2_with (first | (go_at_call 19; refine (rGreat_any f A n c _ HM.out).mono ?_; rintro e w1 ⟨rfl, hb1⟩; rw [HG.out]; have K1 : Lies (w1) (w.heap.size) 24 [.int .i64 (f).l, .slice (A) (n) (c)] := (by (repeat' (first | (with_reducible assumption) | (with_reducible exact Lies.fresh _ _ _) | (with_reducible apply Lies.fresh_at; (first | (with_reducible rfl) | (simp; done))) | (with_reducible refine Lies.drew ?_) | (with_reducible refine Lies.drewN ?_ _) | (with_reducible refine Lies.alloc ?_ _) | (with_reducible apply Lies.past; case hb => (with_reducible assumption)) | (with_reducible apply Lies.keeps; (case k => (with_reducible assumption)); (case ht => decide)) | (with_reducible apply Lies.store3) | (with_reducible apply Lies.other; case hp => (first | omega | (simp; done) | (simp; omega)))))); obtain ⟨p0, p1, -, -⟩ := K1.two) | (go_at_call 24; refine (rCheck_any f A n c _ (H.out.below (by (repeat' (first | (with_reducible exact Below.refl _ _) | (with_reducible assumption) | (with_reducible refine below_drewN ?_ _) | (with_reducible refine below_new ?_ _) | (with_reducible refine Below.alloc ?_ ?_ _) | (with_reducible refine Below.drew ?_) | (with_reducible refine Below.setCell ?_ ?_ _) | (with_reducible apply below_at; (case k => (with_reducible assumption)); (case hB => omega)) | (with_reducible apply below_on; (with_reducible assumption)) | (go_size; done) | (with_reducible apply size_of)))))).mono ?_; rintro e w2 ⟨rfl, hb2⟩; rw [e1]; have K2 : Lies (w2) (w.heap.size) 24 [.int .i64 (f).l, .slice (A) (n) (c)] := (by (repeat' (first | (with_reducible assumption) | (with_reducible exact Lies.fresh _ _ _) | (with_reducible apply Lies.fresh_at; (first | (with_reducible rfl) | (simp; done))) | (with_reducible refine Lies.drew ?_) | (with_reducible refine Lies.drewN ?_ _) | (with_reducible refine Lies.alloc ?_ _) | (with_reducible apply Lies.past; case hb => (with_reducible assumption)) | (with_reducible apply Lies.keeps; (case k => (with_reducible assumption)); (case ht => decide)) | (with_reducible apply Lies.store3) | (with_reducible apply Lies.other; case hp => (first | omega | (simp; done) | (simp; omega)))))); obtain ⟨p0', p1', -, -⟩ := K2.two) | (go_at_call 18; refine (alive _).mono ?_; rintro e wz ⟨rfl, hbz⟩))
    go_ret
    exact ⟨rfl, by (repeat' (first | (with_reducible exact Below.refl _ _) | (with_reducible assumption) | (with_reducible refine below_drewN ?_ _) | (with_reducible refine below_new ?_ _) | (with_reducible refine Below.alloc ?_ ?_ _) | (with_reducible refine Below.drew ?_) | (with_reducible refine Below.setCell ?_ ?_ _) | (with_reducible apply below_at; (case k => (with_reducible assumption)); (case hB => omega)) | (with_reducible apply below_on; (with_reducible assumption)) | (go_size; done) | (with_reducible apply size_of)))⟩
  have e1 := fdE_yes hok
  by_cases c1 : k < 0
  · clear h hok
    go_enter Try.func8, Try.ntmps8
    go_wp2_with (first | (go_at_call 19; refine (rGreat_any f A n c _ HM.out).mono ?_; rintro e w1 ⟨rfl, hb1⟩; rw [HG.out]; have K1 : Lies (w1) (w.heap.size) 24 [.int .i64 (f).l, .slice (A) (n) (c)] := (by (repeat' (first | (with_reducible assumption) | (with_reducible exact Lies.fresh _ _ _) | (with_reducible apply Lies.fresh_at; (first | (with_reducible rfl) | (simp; done))) | (with_reducible refine Lies.drew ?_) | (with_reducible refine Lies.drewN ?_ _) | (with_reducible refine Lies.alloc ?_ _) | (with_reducible apply Lies.past; case hb => (with_reducible assumption)) | (with_reducible apply Lies.keeps; (case k => (with_reducible assumption)); (case ht => decide)) | (with_reducible apply Lies.store3) | (with_reducible apply Lies.other; case hp => (first | omega | (simp; done) | (simp; omega)))))); obtain ⟨p0, p1, -, -⟩ := K1.two) | (go_at_call 24; refine (rCheck_any f A n c _ (H.out.below (by (repeat' (first | (with_reducible exact Below.refl _ _) | (with_reducible assumption) | (with_reducible refine below_drewN ?_ _) | (with_reducible refine below_new ?_ _) | (with_reducible refine Below.alloc ?_ ?_ _) | (with_reducible refine Below.drew ?_) | (with_reducible refine Below.setCell ?_ ?_ _) | (with_reducible apply below_at; (case k => (with_reducible assumption)); (case hB => omega)) | (with_reducible apply below_on; (with_reducible assumption)) | (go_size; done) | (with_reducible apply size_of)))))).mono ?_; rintro e w2 ⟨rfl, hb2⟩; rw [e1]; have K2 : Lies (w2) (w.heap.size) 24 [.int .i64 (f).l, .slice (A) (n) (c)] := (by (repeat' (first | (with_reducible assumption) | (with_reducible exact Lies.fresh _ _ _) | (with_reducible apply Lies.fresh_at; (first | (with_reducible rfl) | (simp; done))) | (with_reducible refine Lies.drew ?_) | (with_reducible refine Lies.drewN ?_ _) | (with_reducible refine Lies.alloc ?_ _) | (with_reducible apply Lies.past; case hb => (with_reducible assumption)) | (with_reducible apply Lies.keeps; (case k => (with_reducible assumption)); (case ht => decide)) | (with_reducible apply Lies.store3) | (with_reducible apply Lies.other; case hp => (first | omega | (simp; done) | (simp; omega)))))); obtain ⟨p0', p1', -, -⟩ := K2.two) | (go_at_call 18; refine (alive _).mono ?_; rintro e wz ⟨rfl, hbz⟩))
    go_ret
    exact ⟨rfl, by (repeat' (first | (with_reducible exact Below.refl _ _) | (with_reducible assumption) | (with_reducible refine below_drewN ?_ _) | (with_reducible refine below_new ?_ _) | (with_reducible refine Below.alloc ?_ ?_ _) | (with_reducible refine Below.drew ?_) | (with_reducible refine Below.setCell ?_ ?_ _) | (with_reducible apply below_at; (case k => (with_reducible assumption)); (case hB => omega)) | (with_reducible apply below_on; (with_reducible assumption)) | (go_size; done) | (with_reducible apply size_of)))⟩
  by_cases c2 : 1073741824 < k
  · clear h hok
    go_enter Try.func8, Try.ntmps8
    go_wp2_with (first | (go_at_call 19; refine (rGreat_any f A n c _ HM.out).mono ?_; rintro e w1 ⟨rfl, hb1⟩; rw [HG.out]; have K1 : Lies (w1) (w.heap.size) 24 [.int .i64 (f).l, .slice (A) (n) (c)] := (by (repeat' (first | (with_reducible assumption) | (with_reducible exact Lies.fresh _ _ _) | (with_reducible apply Lies.fresh_at; (first | (with_reducible rfl) | (simp; done))) | (with_reducible refine Lies.drew ?_) | (with_reducible refine Lies.drewN ?_ _) | (with_reducible refine Lies.alloc ?_ _) | (with_reducible apply Lies.past; case hb => (with_reducible assumption)) | (with_reducible apply Lies.keeps; (case k => (with_reducible assumption)); (case ht => decide)) | (with_reducible apply Lies.store3) | (with_reducible apply Lies.other; case hp => (first | omega | (simp; done) | (simp; omega)))))); obtain ⟨p0, p1, -, -⟩ := K1.two) | (go_at_call 24; refine (rCheck_any f A n c _ (H.out.below (by (repeat' (first | (with_reducible exact Below.refl _ _) | (with_reducible assumption) | (with_reducible refine below_drewN ?_ _) | (with_reducible refine below_new ?_ _) | (with_reducible refine Below.alloc ?_ ?_ _) | (with_reducible refine Below.drew ?_) | (with_reducible refine Below.setCell ?_ ?_ _) | (with_reducible apply below_at; (case k => (with_reducible assumption)); (case hB => omega)) | (with_reducible apply below_on; (with_reducible assumption)) | (go_size; done) | (with_reducible apply size_of)))))).mono ?_; rintro e w2 ⟨rfl, hb2⟩; rw [e1]; have K2 : Lies (w2) (w.heap.size) 24 [.int .i64 (f).l, .slice (A) (n) (c)] := (by (repeat' (first | (with_reducible assumption) | (with_reducible exact Lies.fresh _ _ _) | (with_reducible apply Lies.fresh_at; (first | (with_reducible rfl) | (simp; done))) | (with_reducible refine Lies.drew ?_) | (with_reducible refine Lies.drewN ?_ _) | (with_reducible refine Lies.alloc ?_ _) | (with_reducible apply Lies.past; case hb => (with_reducible assumption)) | (with_reducible apply Lies.keeps; (case k => (with_reducible assumption)); (case ht => decide)) | (with_reducible apply Lies.store3) | (with_reducible apply Lies.other; case hp => (first | omega | (simp; done) | (simp; omega)))))); obtain ⟨p0', p1', -, -⟩ := K2.two) | (go_at_call 18; refine (alive _).mono ?_; rintro e wz ⟨rfl, hbz⟩))
    go_ret
    exact ⟨rfl, by (repeat' (first | (with_reducible exact Below.refl _ _) | (with_reducible assumption) | (with_reducible refine below_drewN ?_ _) | (with_reducible refine below_new ?_ _) | (with_reducible refine Below.alloc ?_ ?_ _) | (with_reducible refine Below.drew ?_) | (with_reducible refine Below.setCell ?_ ?_ _) | (with_reducible apply below_at; (case k => (with_reducible assumption)); (case hB => omega)) | (with_reducible apply below_on; (with_reducible assumption)) | (go_size; done) | (with_reducible apply size_of)))⟩
  by_cases c3 : m < 0
  · clear h hok
    go_enter Try.func8, Try.ntmps8
    go_wp2_with (first | (go_at_call 19; refine (rGreat_any f A n c _ HM.out).mono ?_; rintro e w1 ⟨rfl, hb1⟩; rw [HG.out]; have K1 : Lies (w1) (w.heap.size) 24 [.int .i64 (f).l, .slice (A) (n) (c)] := (by (repeat' (first | (with_reducible assumption) | (with_reducible exact Lies.fresh _ _ _) | (with_reducible apply Lies.fresh_at; (first | (with_reducible rfl) | (simp; done))) | (with_reducible refine Lies.drew ?_) | (with_reducible refine Lies.drewN ?_ _) | (with_reducible refine Lies.alloc ?_ _) | (with_reducible apply Lies.past; case hb => (with_reducible assumption)) | (with_reducible apply Lies.keeps; (case k => (with_reducible assumption)); (case ht => decide)) | (with_reducible apply Lies.store3) | (with_reducible apply Lies.other; case hp => (first | omega | (simp; done) | (simp; omega)))))); obtain ⟨p0, p1, -, -⟩ := K1.two) | (go_at_call 24; refine (rCheck_any f A n c _ (H.out.below (by (repeat' (first | (with_reducible exact Below.refl _ _) | (with_reducible assumption) | (with_reducible refine below_drewN ?_ _) | (with_reducible refine below_new ?_ _) | (with_reducible refine Below.alloc ?_ ?_ _) | (with_reducible refine Below.drew ?_) | (with_reducible refine Below.setCell ?_ ?_ _) | (with_reducible apply below_at; (case k => (with_reducible assumption)); (case hB => omega)) | (with_reducible apply below_on; (with_reducible assumption)) | (go_size; done) | (with_reducible apply size_of)))))).mono ?_; rintro e w2 ⟨rfl, hb2⟩; rw [e1]; have K2 : Lies (w2) (w.heap.size) 24 [.int .i64 (f).l, .slice (A) (n) (c)] := (by (repeat' (first | (with_reducible assumption) | (with_reducible exact Lies.fresh _ _ _) | (with_reducible apply Lies.fresh_at; (first | (with_reducible rfl) | (simp; done))) | (with_reducible refine Lies.drew ?_) | (with_reducible refine Lies.drewN ?_ _) | (with_reducible refine Lies.alloc ?_ _) | (with_reducible apply Lies.past; case hb => (with_reducible assumption)) | (with_reducible apply Lies.keeps; (case k => (with_reducible assumption)); (case ht => decide)) | (with_reducible apply Lies.store3) | (with_reducible apply Lies.other; case hp => (first | omega | (simp; done) | (simp; omega)))))); obtain ⟨p0', p1', -, -⟩ := K2.two) | (go_at_call 18; refine (alive _).mono ?_; rintro e wz ⟨rfl, hbz⟩))
    go_ret
    exact ⟨rfl, by (repeat' (first | (with_reducible exact Below.refl _ _) | (with_reducible assumption) | (with_reducible refine below_drewN ?_ _) | (with_reducible refine below_new ?_ _) | (with_reducible refine Below.alloc ?_ ?_ _) | (with_reducible refine Below.drew ?_) | (with_reducible refine Below.setCell ?_ ?_ _) | (with_reducible apply below_at; (case k => (with_reducible assumption)); (case hB => omega)) | (with_reducible apply below_on; (with_reducible assumption)) | (go_size; done) | (with_reducible apply size_of)))⟩
  by_cases c4 : 1073741824 < m
  · clear h hok
    go_enter Try.func8, Try.ntmps8
    go_wp2_with (first | (go_at_call 19; refine (rGreat_any f A n c _ HM.out).mono ?_; rintro e w1 ⟨rfl, hb1⟩; rw [HG.out]; have K1 : Lies (w1) (w.heap.size) 24 [.int .i64 (f).l, .slice (A) (n) (c)] := (by (repeat' (first | (with_reducible assumption) | (with_reducible exact Lies.fresh _ _ _) | (with_reducible apply Lies.fresh_at; (first | (with_reducible rfl) | (simp; done))) | (with_reducible refine Lies.drew ?_) | (with_reducible refine Lies.drewN ?_ _) | (with_reducible refine Lies.alloc ?_ _) | (with_reducible apply Lies.past; case hb => (with_reducible assumption)) | (with_reducible apply Lies.keeps; (case k => (with_reducible assumption)); (case ht => decide)) | (with_reducible apply Lies.store3) | (with_reducible apply Lies.other; case hp => (first | omega | (simp; done) | (simp; omega)))))); obtain ⟨p0, p1, -, -⟩ := K1.two) | (go_at_call 24; refine (rCheck_any f A n c _ (H.out.below (by (repeat' (first | (with_reducible exact Below.refl _ _) | (with_reducible assumption) | (with_reducible refine below_drewN ?_ _) | (with_reducible refine below_new ?_ _) | (with_reducible refine Below.alloc ?_ ?_ _) | (with_reducible refine Below.drew ?_) | (with_reducible refine Below.setCell ?_ ?_ _) | (with_reducible apply below_at; (case k => (with_reducible assumption)); (case hB => omega)) | (with_reducible apply below_on; (with_reducible assumption)) | (go_size; done) | (with_reducible apply size_of)))))).mono ?_; rintro e w2 ⟨rfl, hb2⟩; rw [e1]; have K2 : Lies (w2) (w.heap.size) 24 [.int .i64 (f).l, .slice (A) (n) (c)] := (by (repeat' (first | (with_reducible assumption) | (with_reducible exact Lies.fresh _ _ _) | (with_reducible apply Lies.fresh_at; (first | (with_reducible rfl) | (simp; done))) | (with_reducible refine Lies.drew ?_) | (with_reducible refine Lies.drewN ?_ _) | (with_reducible refine Lies.alloc ?_ _) | (with_reducible apply Lies.past; case hb => (with_reducible assumption)) | (with_reducible apply Lies.keeps; (case k => (with_reducible assumption)); (case ht => decide)) | (with_reducible apply Lies.store3) | (with_reducible apply Lies.other; case hp => (first | omega | (simp; done) | (simp; omega)))))); obtain ⟨p0', p1', -, -⟩ := K2.two) | (go_at_call 18; refine (alive _).mono ?_; rintro e wz ⟨rfl, hbz⟩))
    go_ret
    exact ⟨rfl, by (repeat' (first | (with_reducible exact Below.refl _ _) | (with_reducible assumption) | (with_reducible refine below_drewN ?_ _) | (with_reducible refine below_new ?_ _) | (with_reducible refine Below.alloc ?_ ?_ _) | (with_reducible refine Below.drew ?_) | (with_reducible refine Below.setCell ?_ ?_ _) | (with_reducible apply below_at; (case k => (with_reducible assumption)); (case hB => omega)) | (with_reducible apply below_on; (with_reducible assumption)) | (go_size; done) | (with_reducible apply size_of)))⟩
  obtain ⟨p, hp⟩ : ∃ p, plc f x = p := ⟨_, rfl⟩
  obtain ⟨q, hq⟩ : ∃ q, plc f y = q := ⟨_, rfl⟩
  obtain ⟨b1, b2, b3⟩ := fd_parts h hok x
  have b4 := (fd_parts h hok y).2.2
  have HF := Lib.hid (only_facts hok x y k m (by omega) (by omega) (by omega) (by omega) p q hp hq)
  have HPL : Hid ((placeV x (n : Int) = (p : Int) ∧ placeE (n : Int) = 0) ∧ placeV y (n : Int) = (q : Int)) := Lib.hid ⟨by rw [← h.e, ← hp]; exact fd_place hok x, by rw [← h.e, ← hq]; exact (fd_place hok y).1⟩
  rw [hp] at b3
  rw [hq] at b4
  obtain ⟨sa, has⟩ : ∃ l, f.s.set p k = l := ⟨_, rfl⟩
  obtain ⟨sb, hbs⟩ : ∃ l, f.s.set p m = l := ⟨_, rfl⟩
  rw [has, hbs] at HF
  have HLA : Hid (sa.length = n ∧ sa.getD p 0 = k ∧ ∀ j, j ≠ p → sa.getD j 0 = f.s.getD j 0) := Lib.hid (by
    rw [← has]
    refine ⟨by rw [List.length_set, h.e], by rw [getD_set_row _ _ _ _ (by rw [h.e]; exact b3), if_pos rfl], fun j hj => by rw [getD_set_row _ _ _ _ (by rw [h.e]; exact b3), if_neg (fun e => hj e.symm)]⟩)
  have HBD := Lib.hid (And.intro b1 (And.intro b2 (And.intro b3 b4)))
  obtain ⟨bA, oA, rfl, hbA, hcA⟩ := has_some h.h (by have := h.e; omega)
  have HCA : Hid (bA < w.heap.size ∧ ∀ i, i < n → w.cell? ⟨bA, oA + i, none⟩ = some (.int .i64 (f.s.getD i 0))) := Lib.hid ⟨hbA, fun i hi => hcA i (by rw [h.e]; exact hi)⟩
  have n8 : (n : Int) ≤ 8192 := by omega
  clear h hok hp hq b1 b2 b3 b4 has hbs hbA hcA
  go_enter Try.func8, Try.ntmps8
  go_wp2_with (first
    | (go_at_call 19; refine (rGreat_any f _ n c _ HM.out).mono ?_; rintro e w1 ⟨rfl, hb1⟩; rw [HG.out]; have K1 : Lies (w1) (w.heap.size) 24 [.int .i64 (f).l, .slice ((some ⟨bA, oA, none⟩)) (n) (c)] := (by (repeat' (first | (with_reducible assumption) | (with_reducible exact Lies.fresh _ _ _) | (with_reducible apply Lies.fresh_at; (first | (with_reducible rfl) | (simp; done))) | (with_reducible refine Lies.drew ?_) | (with_reducible refine Lies.drewN ?_ _) | (with_reducible refine Lies.alloc ?_ _) | (with_reducible apply Lies.past; case hb => (with_reducible assumption)) | (with_reducible apply Lies.keeps; (case k => (with_reducible assumption)); (case ht => decide)) | (with_reducible apply Lies.store3) | (with_reducible apply Lies.other; case hp => (first | omega | (simp; done) | (simp; omega)))))); obtain ⟨p0, p1, -, -⟩ := K1.two)
    | (go_at_call 24; refine (rCheck_any f _ n c _ (H.out.below (by (repeat' (first | (with_reducible exact Below.refl _ _) | (with_reducible assumption) | (with_reducible refine below_drewN ?_ _) | (with_reducible refine below_new ?_ _) | (with_reducible refine Below.alloc ?_ ?_ _) | (with_reducible refine Below.drew ?_) | (with_reducible refine Below.setCell ?_ ?_ _) | (with_reducible apply below_at; (case k => (with_reducible assumption)); (case hB => omega)) | (with_reducible apply below_on; (with_reducible assumption)) | (go_size; done) | (with_reducible apply size_of)))))).mono ?_; rintro e w2 ⟨rfl, hb2⟩; rw [e1]; have K2 : Lies (w2) (w.heap.size) 24 [.int .i64 (f).l, .slice ((some ⟨bA, oA, none⟩)) (n) (c)] := (by (repeat' (first | (with_reducible assumption) | (with_reducible exact Lies.fresh _ _ _) | (with_reducible apply Lies.fresh_at; (first | (with_reducible rfl) | (simp; done))) | (with_reducible refine Lies.drew ?_) | (with_reducible refine Lies.drewN ?_ _) | (with_reducible refine Lies.alloc ?_ _) | (with_reducible apply Lies.past; case hb => (with_reducible assumption)) | (with_reducible apply Lies.keeps; (case k => (with_reducible assumption)); (case ht => decide)) | (with_reducible apply Lies.store3) | (with_reducible apply Lies.other; case hp => (first | omega | (simp; done) | (simp; omega)))))); obtain ⟨p0', p1', -, -⟩ := K2.two))
  refine (Put_any f _ n c x k _ (H.out.below (by (repeat' (first | (with_reducible exact Below.refl _ _) | (with_reducible assumption) | (with_reducible refine below_drewN ?_ _) | (with_reducible refine below_new ?_ _) | (with_reducible refine Below.alloc ?_ ?_ _) | (with_reducible refine Below.drew ?_) | (with_reducible refine Below.setCell ?_ ?_ _) | (with_reducible apply below_at; (case k => (with_reducible assumption)); (case hB => omega)) | (with_reducible apply below_on; (with_reducible assumption)) | (go_size; done) | (with_reducible apply size_of))))) x1 x2).mono ?_
  rintro e w3 ⟨A3, n3, c3, rfl, i3, hb3⟩
  rw [HF.out.1.2.1] at i3 ⊢
  rw [HF.out.1.1]
  have hn3 : n = n3 := by have h1 : sa.length = n3 := i3.e; have := HLA.out.1; omega
  subst hn3
  obtain ⟨bB, oB, rfl, hbB, hcB⟩ := has_some i3.h (by have h1 : sa.length = n := i3.e; have := HBD.out.1; show 0 < sa.length; omega)
  have HCB : Hid (bB < w3.heap.size ∧ ∀ i, i < n → w3.cell? ⟨bB, oB + i, none⟩ = some (.int .i64 (sa.getD i 0))) := Lib.hid ⟨hbB, fun i hi => hcB i (by have h1 : sa.length = n := i3.e; show i < sa.length; omega)⟩
  have I3 := Lib.hid i3
  have HK3 : Hid (Lies (w3) (w.heap.size) 24 [.int .i64 (f).l, .slice ((some ⟨bA, oA, none⟩)) (n) (c)]) := Lib.hid (by (repeat' (first | (with_reducible assumption) | (with_reducible exact Lies.fresh _ _ _) | (with_reducible apply Lies.fresh_at; (first | (with_reducible rfl) | (simp; done))) | (with_reducible refine Lies.drew ?_) | (with_reducible refine Lies.drewN ?_ _) | (with_reducible refine Lies.alloc ?_ _) | (with_reducible apply Lies.past; case hb => (with_reducible assumption)) | (with_reducible apply Lies.keeps; (case k => (with_reducible assumption)); (case ht => decide)) | (with_reducible apply Lies.store3) | (with_reducible apply Lies.other; case hp => (first | omega | (simp; done) | (simp; omega))))))
  have HA3 : Hid (Below w.heap.size w w3) := Lib.hid (by (repeat' (first | (with_reducible exact Below.refl _ _) | (with_reducible assumption) | (with_reducible refine below_drewN ?_ _) | (with_reducible refine below_new ?_ _) | (with_reducible refine Below.alloc ?_ ?_ _) | (with_reducible refine Below.drew ?_) | (with_reducible refine Below.setCell ?_ ?_ _) | (with_reducible apply below_at; (case k => (with_reducible assumption)); (case hB => omega)) | (with_reducible apply below_on; (with_reducible assumption)) | (go_size; done) | (with_reducible apply size_of))))
  have T3 : Hid (Lies (w3.alloc (.cells #[.int .i64 f.l, .slice (some ⟨bB, oB, none⟩) n c3] 24)) (w3.heap.size) 24 [.int .i64 ((Fnd.mk f.l sa)).l, .slice ((some ⟨bB, oB, none⟩)) (n) (c3)]) := Lib.hid (Lies.fresh _ _ _)
  clear hb3 i3 hbB hcB p0 p1 p0' p1' K1 K2 hb1 hb2
  obtain ⟨p0, p1, -, -⟩ := HK3.out.two
  have lt3 := HK3.out.lt
  go_wp2_with (first | (go_at_call 28; refine (place_any x (n : Int) _ x1 x2).mono ?_; rintro e w4 ⟨rfl, rfl⟩; rw [HPL.out.1.1, HPL.out.1.2]))
  have HT : Hid (Below w3.heap.size w3 (w3.alloc (.cells #[.int .i64 f.l, .slice (some ⟨bB, oB, none⟩) n c3] 24))) := Lib.hid (by (repeat' (first | (with_reducible exact Below.refl _ _) | (with_reducible assumption) | (with_reducible refine below_drewN ?_ _) | (with_reducible refine below_new ?_ _) | (with_reducible refine Below.alloc ?_ ?_ _) | (with_reducible refine Below.drew ?_) | (with_reducible refine Below.setCell ?_ ?_ _) | (with_reducible apply below_at; (case k => (with_reducible assumption)); (case hB => omega)) | (with_reducible apply below_on; (with_reducible assumption)) | (go_size; done) | (with_reducible apply size_of))))
  have HT3 : Hid (Lies (w3.alloc (.cells #[.int .i64 f.l, .slice (some ⟨bB, oB, none⟩) n c3] 24)) (w.heap.size) 24 [.int .i64 (f).l, .slice ((some ⟨bA, oA, none⟩)) (n) (c)]) := Lib.hid (HK3.out.alloc _)
  go_loopw [15] (fun i wr => ∃ j : Nat, j ≤ n ∧ i = .int .i64 (j : Int) ∧ (Lies (wr) (w.heap.size) 24 [.int .i64 (f).l, .slice ((some ⟨bA, oA, none⟩)) (n) (c)]) ∧ (Lies (wr) (w3.heap.size) 24 [.int .i64 ((Fnd.mk f.l sa)).l, .slice ((some ⟨bB, oB, none⟩)) (n) (c3)]) ∧ Below w3.heap.size w3 wr) (fun i _ => n - (intOf i).toNat)
  case atStart => exact ⟨0, Nat.zero_le _, rfl, HT3.out, T3.out, HT.out⟩
  case round =>
    clear HT HT3 T3 p0 p1 lt3
    obtain ⟨j, hj, rfl, K, T, acc⟩ := hrel
    rename World => wr
    have HK := Lib.hid K
    have HTT := Lib.hid T
    have HAC := Lib.hid acc
    obtain ⟨p0, p1, -, -⟩ := K.two
    obtain ⟨t0, t1, -, -⟩ := T.two
    by_cases hlt : j < n
    · have cA : wr.cell? ⟨bA, oA + j, none⟩ = some (.int .i64 (f.s.getD j 0)) := by
        rw [(bcell (HA3.out.trans (acc.mono HA3.out.size))).1 bA _ HCA.out.1]; exact HCA.out.2 j hlt
      have cB : wr.cell? ⟨bB, oB + j, none⟩ = some (.int .i64 (sa.getD j 0)) := by
        rw [(bcell acc).1 bB _ HCB.out.1]; exact HCB.out.2 j hlt
      have j1 : (j : Int) < n := by omega
      have j0 : (0 : Int) ≤ j := by omega
      have HLT := Lib.hid hlt
      by_cases hjp : j = p
      · rw [hjp, HLA.out.2.1] at cB
        rw [hjp] at cA j1 j0 HLT
        generalize f.s.getD p 0 = u at cA
        subst hjp
        clear K T acc hlt hj
        go_wp2_with fail
        go_quiet (fail)
        go_wp2_with fail
        go_roundw
        case rel => exact ⟨j + 1, HLT.out, by go_num, HK.out.drewN _, HTT.out.drewN _, by have := HAC.out; (repeat' (first | (with_reducible exact Below.refl _ _) | (with_reducible assumption) | (with_reducible refine below_drewN ?_ _) | (with_reducible refine below_new ?_ _) | (with_reducible refine Below.alloc ?_ ?_ _) | (with_reducible refine Below.drew ?_) | (with_reducible refine Below.setCell ?_ ?_ _) | (with_reducible apply below_at; (case k => (with_reducible assumption)); (case hB => omega)) | (with_reducible apply below_on; (with_reducible assumption)) | (go_size; done) | (with_reducible apply size_of)))⟩
        case measure => simp [intOf]; have := HLT.out; omega
      · rw [HLA.out.2.2 j hjp] at cB
        have hne : ((j : Int) == (p : Int)) = false := by simp; omega
        have hne2 : ¬ (j : Int) = (p : Int) := by omega
        have hne3 : ((j : Int) != (p : Int)) = true := by simp; omega
        generalize f.s.getD j 0 = u at cA cB
        clear K T acc hlt hj
        go_wp2_with fail
        go_quiet (fail)
        go_wp2_with fail
        go_roundw
        case rel => exact ⟨j + 1, HLT.out, by go_num, HK.out.drewN _, HTT.out.drewN _, by have := HAC.out; (repeat' (first | (with_reducible exact Below.refl _ _) | (with_reducible assumption) | (with_reducible refine below_drewN ?_ _) | (with_reducible refine below_new ?_ _) | (with_reducible refine Below.alloc ?_ ?_ _) | (with_reducible refine Below.drew ?_) | (with_reducible refine Below.setCell ?_ ?_ _) | (with_reducible apply below_at; (case k => (with_reducible assumption)); (case hB => omega)) | (with_reducible apply below_on; (with_reducible assumption)) | (go_size; done) | (with_reducible apply size_of)))⟩
        case measure => simp [intOf]; have := HLT.out; omega
    · have he : j = n := by omega
      subst he
      have HWA : Hid (Below w.heap.size w wr) := Lib.hid (HA3.out.trans (acc.mono HA3.out.size))
      have HI3 : Hid (FdIn wr (some ⟨bB, oB, none⟩) j c3 (Fnd.mk f.l sa)) := Lib.hid (I3.out.below acc)
      have HIF : Hid (FdIn wr (some ⟨bA, oA, none⟩) j c f) := Lib.hid (H.out.below HWA.out)
      obtain ⟨u, hu⟩ : ∃ u, findV (Fnd.mk f.l sa) y = u := ⟨_, rfl⟩
      obtain ⟨v, hv⟩ : ∃ v, findV f y = v := ⟨_, rfl⟩
      have HU : Hid (findV (Fnd.mk f.l sa) y = u ∧ findV f y = v ∧ fdE (Fnd.mk f.l sa) = 0) := Lib.hid ⟨hu, hv, fdE_yes HF.out.2.1⟩
      have hcase : q = p ∧ u = k ∨ q ≠ p ∧ u = v := by
        by_cases e : q = p
        · left
          refine ⟨e, ?_⟩
          rw [← hu, HF.out.2.2.2, e]; exact HLA.out.2.1
        · right
          refine ⟨e, ?_⟩
          rw [← hu, ← hv, HF.out.2.2.2, HF.out.2.2.1]; exact HLA.out.2.2 q e
      have HCS := Lib.hid hcase
      have lt1 := K.lt
      have lt2 := T.lt
      clear hlt hj K T acc hu hv hcase
      go_wp2_with fail
      refine (Put_any (Fnd.mk f.l sa) _ j c3 x m _ HI3.out x1 x2).mono ?_
      rintro e w5 ⟨A5, n5, c5, rfl, i5, hb5⟩
      rw [HF.out.1.2.2.2.2.2] at i5 ⊢
      rw [HF.out.1.2.2.2.2.1]
      have HI5 := Lib.hid i5
      have HI3 := Lib.hid (HI3.out.below hb5)
      have HIF := Lib.hid (HIF.out.below hb5)
      have HK5 := Lib.hid (HK.out.past hb5)
      have HT5 := Lib.hid (HTT.out.past hb5)
      have HW5 := Lib.hid (HWA.out.trans (hb5.mono HWA.out.size))
      clear i5 hb5 p0 p1 t0 t1 lt1 lt2
      obtain ⟨p0, p1, -, -⟩ := HK5.out.two
      have lt1 := HK5.out.lt
      go_wp2_with fail
      refine (Put_any f _ j c x m _ (HIF.out.below ((Below.refl _ _).alloc (Nat.le_refl _) _)) x1 x2).mono ?_
      rintro e w6 ⟨A6, n6, c6, rfl, i6, hb6⟩
      rw [HF.out.1.2.2.2.1] at i6 ⊢
      rw [HF.out.1.2.2.1]
      have HI6 := Lib.hid i6
      have HI5 := Lib.hid (fin_step HI5.out hb6)
      have HI3 := Lib.hid (fin_step HI3.out hb6)
      have HIF := Lib.hid (fin_step HIF.out hb6)
      have HK6 := Lib.hid (lies_step HK5.out hb6)
      have HT6 := Lib.hid (lies_step HT5.out hb6)
      have HT16 : Hid (Lies (w6) (w5.heap.size) 24 [.int .i64 ((Fnd.mk f.l sb)).l, .slice (A5) (n5) (c5)]) := Lib.hid ((Lies.fresh _ _ _).past hb6)
      have HW6 := Lib.hid (acc_step HW5.out hb6)
      clear i6 hb6 p0 p1 lt1
      obtain ⟨t0, t1, -, -⟩ := HT6.out.two
      have lt2 := HT6.out.lt
      go_wp2_with fail
      refine (Find_any (Fnd.mk f.l sa) _ j c3 y _ (HI3.out.below ((Below.refl _ _).alloc (Nat.le_refl _) _)) y1 y2).mono ?_
      rintro e w7 ⟨rfl, hb7⟩
      rw [HU.out.1, HU.out.2.2]
      have HI6 := Lib.hid (fin_step HI6.out hb7)
      have HI5 := Lib.hid (fin_step HI5.out hb7)
      have HIF := Lib.hid (fin_step HIF.out hb7)
      have HK7 := Lib.hid (lies_step HK6.out hb7)
      have HT16 := Lib.hid (lies_step HT16.out hb7)
      have HT18 : Hid (Lies (w7) (w6.heap.size) 24 [.int .i64 ((Fnd.mk f.l sb)).l, .slice (A6) (n6) (c6)]) := Lib.hid ((Lies.fresh _ _ _).past hb7)
      have HW7 := Lib.hid (acc_step HW6.out hb7)
      clear hb7 t0 t1 lt2
      obtain ⟨p0, p1, -, -⟩ := HK7.out.two
      go_wp2_with fail
      refine (Find_any f _ j c y _ HIF.out y1 y2).mono ?_
      rintro e w8 ⟨rfl, hb8⟩
      rw [HU.out.2.1, e1]
      have HI6 := Lib.hid (HI6.out.below hb8)
      have HI5 := Lib.hid (HI5.out.below hb8)
      have HK8 := Lib.hid (HK7.out.past hb8)
      have HT16 := Lib.hid (HT16.out.past hb8)
      have HT18 := Lib.hid (HT18.out.past hb8)
      have HW8 := Lib.hid (HW7.out.trans (hb8.mono HW7.out.size))
      have HCP : Hid (n5 ≤ 9223372036854775807 ∧ n6 ≤ 9223372036854775807) := Lib.hid ⟨fin_cap HI5.out, fin_cap HI6.out⟩
      clear hb8 p0 p1
      obtain ⟨p0, p1, -, -⟩ := HK8.out.two
      obtain ⟨s0, s1, -, -⟩ := HT16.out.two
      obtain ⟨r0, r1, -, -⟩ := HT18.out.two
      have q0 : (0 : Int) ≤ q := by omega
      rcases HCS.out with ⟨h1, h2⟩ | ⟨h1, h2⟩
      · subst h1 h2
        go_wp2_with (first
          | (go_at_call 28; refine (place_any y (j : Int) _ y1 y2).mono ?_; rintro e w9 ⟨rfl, rfl⟩; rw [HPL.out.2, HPL.out.1.2])
          | (go_at_call 23; with_reducible refine (rSame_any (Fnd.mk f.l sb) (Fnd.mk f.l sb) A5 A6 n5 n6 c5 c6 _ HI5.out.h HI5.out.e HI6.out.h HI6.out.e HCP.out.1 HCP.out.2).mono ?_; rintro e y1' ⟨rfl, hy1⟩; rw [sameF_refl])
          | (go_at_call 18; refine (alive _).mono ?_; rintro e wz ⟨rfl, hbz⟩))
        go_ret
        exact ⟨rfl, by have := HW8.out; (repeat' (first | (with_reducible exact Below.refl _ _) | (with_reducible assumption) | (with_reducible refine below_drewN ?_ _) | (with_reducible refine below_new ?_ _) | (with_reducible refine Below.alloc ?_ ?_ _) | (with_reducible refine Below.drew ?_) | (with_reducible refine Below.setCell ?_ ?_ _) | (with_reducible apply below_at; (case k => (with_reducible assumption)); (case hB => omega)) | (with_reducible apply below_on; (with_reducible assumption)) | (go_size; done) | (with_reducible apply size_of)))⟩
      · subst h2
        have hne : ((q : Int) == (p : Int)) = false := by simp; omega
        have hne2 : ¬ (q : Int) = (p : Int) := by omega
        have hne3 : ((q : Int) != (p : Int)) = true := by simp; omega
        go_wp2_with (first
          | (go_at_call 28; refine (place_any y (j : Int) _ y1 y2).mono ?_; rintro e w9 ⟨rfl, rfl⟩; rw [HPL.out.2, HPL.out.1.2])
          | (go_at_call 23; with_reducible refine (rSame_any (Fnd.mk f.l sb) (Fnd.mk f.l sb) A5 A6 n5 n6 c5 c6 _ HI5.out.h HI5.out.e HI6.out.h HI6.out.e HCP.out.1 HCP.out.2).mono ?_; rintro e y1' ⟨rfl, hy1⟩; rw [sameF_refl])
          | (go_at_call 18; refine (alive _).mono ?_; rintro e wz ⟨rfl, hbz⟩))
        go_ret
        exact ⟨rfl, by have := HW8.out; (repeat' (first | (with_reducible exact Below.refl _ _) | (with_reducible assumption) | (with_reducible refine below_drewN ?_ _) | (with_reducible refine below_new ?_ _) | (with_reducible refine Below.alloc ?_ ?_ _) | (with_reducible refine Below.drew ?_) | (with_reducible refine Below.setCell ?_ ?_ _) | (with_reducible apply below_at; (case k => (with_reducible assumption)); (case hB => omega)) | (with_reducible apply below_on; (with_reducible assumption)) | (go_size; done) | (with_reducible apply size_of)))⟩
end Go.Proofs.Ytbdipdnnjbpibaa.fdL
