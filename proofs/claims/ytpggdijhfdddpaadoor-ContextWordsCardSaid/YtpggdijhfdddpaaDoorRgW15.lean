/- Put of rings that refuses, by walks. -/
import Derived.Test.YtpggdijhfdddpaaDoorRgW14
namespace Go.Proofs.YtpggdijhfdddpaaDoor.rgW
open Go.RowKit Go.Proofs.YtpggdijhfdddpaaDoor.base Go.Proofs.YtpggdijhfdddpaaDoor.rgP
set_option linter.unusedVariables false
set_option linter.unusedSimpArgs false

theorem put_kinds {r : Rg} (l : List Int) (m : Nat) (hm : l.length = m) (h : putE r l ≠ 0) : rgOk r = false ∧ putE r l = 8 ∨ rgOk r = true ∧ putE r l = 4 ∧ (20000 : Int) < m ∨ rgOk r = true ∧ putE r l = 16 ∧ ¬ (20000 : Int) < m ∧ 1073741824 - r.n < (m : Int) := by
  unfold putE at *
  rw [hm] at *
  cases hok : rgOk r
  · left; simp
  · right
    rw [hok] at h
    simp only [if_true] at h ⊢
    by_cases c1 : 20000 < m
    · rw [if_pos c1]
      exact .inl ⟨by trivial, by trivial, by omega⟩
    · rw [if_neg c1] at h ⊢
      by_cases c2 : 1073741824 - r.n < (m : Int)
      · rw [if_pos c2]
        exact .inr ⟨by trivial, by trivial, by omega, c2⟩
      · rw [if_neg c2] at h; exact absurd rfl h
set_option maxHeartbeats 2000000 in
theorem Put_bad (r : Rg) (A B : Option Addr) (n c m d : Nat) (l : List Int) (w : World) (h : RgIn w A n c r) (hm : l.length = m) (m2 : m ≤ 9223372036854775807) (hk : putE r l ≠ 0) :
    Calls Tryd.prog 37 #[.agg #[.int .i64 (r).l, .slice A n c, .int .i64 (r).n], .slice B m d] w fun e w' => e = .returned (.tuple #[.agg #[.int .i64 0, .slice none 0 0, .int .i64 0], .int .i64 (putE r l)]) ∧ Below w.heap.size w w' := by
  have H := Lib.hid h
  rcases put_kinds l m hm hk with ⟨h1, h2⟩ | ⟨h1, h2, h3⟩ | ⟨h1, h2, h3, h4⟩
  · have e1 : rgE r = 8 := rgE_no h1
    rw [h2]; clear h hk h2 h1 hm
    go_enter Tryd.func37, Tryd.ntmps37
    go_wp2_with (first | (go_at_call 39; refine (Check_any r A n c _ (H.out.below (by (repeat' (first | (with_reducible exact Below.refl _ _) | (with_reducible assumption) | (with_reducible refine below_drewN ?_ _) | (with_reducible refine below_new ?_ _) | (with_reducible refine Below.alloc ?_ ?_ _) | (with_reducible refine Below.drew ?_) | (with_reducible refine Below.setCell ?_ ?_ _) | (with_reducible apply below_at; (case k => (with_reducible assumption)); (case hB => omega)) | (with_reducible apply below_on; (with_reducible assumption)) | (go_size; done) | (with_reducible apply size_of)))))).mono ?_; rintro e w1 ⟨rfl, hb1⟩; rw [e1]; have K1 : Lies (w1) (w.heap.size) 24 [.int .i64 (r).l, .slice (A) (n) (c), .int .i64 (r).n] := (by (repeat' (first | (with_reducible assumption) | (with_reducible exact Lies.fresh _ _ _) | (with_reducible apply Lies.fresh_at; (first | (with_reducible rfl) | (simp; done))) | (with_reducible refine Lies.drew ?_) | (with_reducible refine Lies.drewN ?_ _) | (with_reducible refine Lies.alloc ?_ _) | (with_reducible apply Lies.past; case hb => (with_reducible assumption)) | (with_reducible apply Lies.keeps; (case k => (with_reducible assumption)); (case ht => decide)) | (with_reducible apply Lies.store3) | (with_reducible apply Lies.other; case hp => (first | omega | (simp; done) | (simp; omega)))))); have Z1 : Lies (w1) (w.heap.size + 1) 24 [.int .i64 0, .slice none 0 0, .int .i64 0] := (by (repeat' (first | (with_reducible assumption) | (with_reducible exact Lies.fresh _ _ _) | (with_reducible apply Lies.fresh_at; (first | (with_reducible rfl) | (simp; done))) | (with_reducible refine Lies.drew ?_) | (with_reducible refine Lies.drewN ?_ _) | (with_reducible refine Lies.alloc ?_ _) | (with_reducible apply Lies.past; case hb => (with_reducible assumption)) | (with_reducible apply Lies.keeps; (case k => (with_reducible assumption)); (case ht => decide)) | (with_reducible apply Lies.store3) | (with_reducible apply Lies.other; case hp => (first | omega | (simp; done) | (simp; omega)))))); obtain ⟨p0, p1, p2, -, -, -⟩ := K1.three; obtain ⟨z0, z1, z2, y0, y1, y2⟩ := Z1.three; have HZ1 := Lib.hid Z1; have HB1 := Lib.hid hb1; have lt1 := Z1.lt))
    obtain ⟨t0, t1, t2, -, -, -⟩ := (HZ1.out.store3 (a := .int .i64 0) (b := .slice none 0 0) (c := .int .i64 0)).three
    refine bodyPost_ret (by simp [results, Tryd.results37, go_sem, t0, t1, t2]; try rfl) rfl ?_
    exact ⟨rfl, below_store3 (by have := HB1.out; (repeat' (first | (with_reducible exact Below.refl _ _) | (with_reducible assumption) | (with_reducible refine below_drewN ?_ _) | (with_reducible refine below_new ?_ _) | (with_reducible refine Below.alloc ?_ ?_ _) | (with_reducible refine Below.drew ?_) | (with_reducible refine Below.setCell ?_ ?_ _) | (with_reducible apply below_at; (case k => (with_reducible assumption)); (case hB => omega)) | (with_reducible apply below_on; (with_reducible assumption)) | (go_size; done) | (with_reducible apply size_of)))) (Nat.le_succ _)⟩
  all_goals
    have e1 : rgE r = 0 := rgE_yes h1
    obtain ⟨a1, a2, a3, a4⟩ := ok_parts h h1
    rw [h2]; clear h hk h2 h1 hm a1 a2
    go_enter Tryd.func37, Tryd.ntmps37
    go_wp2_with (first | (go_at_call 39; refine (Check_any r A n c _ (H.out.below (by (repeat' (first | (with_reducible exact Below.refl _ _) | (with_reducible assumption) | (with_reducible refine below_drewN ?_ _) | (with_reducible refine below_new ?_ _) | (with_reducible refine Below.alloc ?_ ?_ _) | (with_reducible refine Below.drew ?_) | (with_reducible refine Below.setCell ?_ ?_ _) | (with_reducible apply below_at; (case k => (with_reducible assumption)); (case hB => omega)) | (with_reducible apply below_on; (with_reducible assumption)) | (go_size; done) | (with_reducible apply size_of)))))).mono ?_; rintro e w1 ⟨rfl, hb1⟩; rw [e1]; have K1 : Lies (w1) (w.heap.size) 24 [.int .i64 (r).l, .slice (A) (n) (c), .int .i64 (r).n] := (by (repeat' (first | (with_reducible assumption) | (with_reducible exact Lies.fresh _ _ _) | (with_reducible apply Lies.fresh_at; (first | (with_reducible rfl) | (simp; done))) | (with_reducible refine Lies.drew ?_) | (with_reducible refine Lies.drewN ?_ _) | (with_reducible refine Lies.alloc ?_ _) | (with_reducible apply Lies.past; case hb => (with_reducible assumption)) | (with_reducible apply Lies.keeps; (case k => (with_reducible assumption)); (case ht => decide)) | (with_reducible apply Lies.store3) | (with_reducible apply Lies.other; case hp => (first | omega | (simp; done) | (simp; omega)))))); have Z1 : Lies (w1) (w.heap.size + 1) 24 [.int .i64 0, .slice none 0 0, .int .i64 0] := (by (repeat' (first | (with_reducible assumption) | (with_reducible exact Lies.fresh _ _ _) | (with_reducible apply Lies.fresh_at; (first | (with_reducible rfl) | (simp; done))) | (with_reducible refine Lies.drew ?_) | (with_reducible refine Lies.drewN ?_ _) | (with_reducible refine Lies.alloc ?_ _) | (with_reducible apply Lies.past; case hb => (with_reducible assumption)) | (with_reducible apply Lies.keeps; (case k => (with_reducible assumption)); (case ht => decide)) | (with_reducible apply Lies.store3) | (with_reducible apply Lies.other; case hp => (first | omega | (simp; done) | (simp; omega)))))); obtain ⟨p0, p1, p2, -, -, -⟩ := K1.three; obtain ⟨z0, z1, z2, y0, y1, y2⟩ := Z1.three; have HZ1 := Lib.hid Z1; have HB1 := Lib.hid hb1; have lt1 := Z1.lt))
    obtain ⟨t0, t1, t2, -, -, -⟩ := (HZ1.out.store3 (a := .int .i64 0) (b := .slice none 0 0) (c := .int .i64 0)).three
    refine bodyPost_ret (by simp [results, Tryd.results37, go_sem, t0, t1, t2]; try rfl) rfl ?_
    exact ⟨rfl, below_store3 (by have := HB1.out; (repeat' (first | (with_reducible exact Below.refl _ _) | (with_reducible assumption) | (with_reducible refine below_drewN ?_ _) | (with_reducible refine below_new ?_ _) | (with_reducible refine Below.alloc ?_ ?_ _) | (with_reducible refine Below.drew ?_) | (with_reducible refine Below.setCell ?_ ?_ _) | (with_reducible apply below_at; (case k => (with_reducible assumption)); (case hB => omega)) | (with_reducible apply below_on; (with_reducible assumption)) | (go_size; done) | (with_reducible apply size_of)))) (Nat.le_succ _)⟩
end Go.Proofs.YtpggdijhfdddpaaDoor.rgW
