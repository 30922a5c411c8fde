/- The last bytes of rings; bytes compared, by walks. -/
import Derived.Test.YtpggdijhfdddpaaDoorRgW7
import Derived.Test.YtpggdijhfdddpaaDoorStep
namespace Go.Proofs.YtpggdijhfdddpaaDoor.rgW
open Go.RowKit Go.Proofs.YtpggdijhfdddpaaDoor.base Go.Proofs.YtpggdijhfdddpaaDoor.rgP
set_option linter.unusedVariables false
set_option linter.unusedSimpArgs false

theorem last_kinds {r : Rg} {n : Nat} (he : r.b.length = n) (k : Int) (h : lastE r k ≠ 0) : rgOk r = false ∧ lastE r k = 8 ∨ rgOk r = true ∧ lastE r k = 2 ∧ (k < 0 ∨ ¬ k < 0 ∧ (n : Int) < k) ∨ rgOk r = true ∧ lastE r k = 18 ∧ ¬ k < 0 ∧ ¬ (n : Int) < k ∧ r.n < k := by
  unfold lastE at *
  rw [he] at *
  cases hok : rgOk r
  · left; simp
  · right
    rw [hok] at h
    simp only [if_true] at h ⊢
    by_cases c1 : 0 ≤ k ∧ k ≤ (n : Int)
    · rw [if_pos c1] at h ⊢
      by_cases c2 : r.n < k
      · rw [if_pos c2] at h ⊢
        exact .inr ⟨by trivial, by trivial, by omega, by omega, c2⟩
      · rw [if_neg c2] at h; exact absurd rfl h
    · rw [if_neg c1] at h ⊢
      exact .inl ⟨by trivial, by trivial, by omega⟩
set_option maxHeartbeats 2000000 in
theorem Last_bad (r : Rg) (A : Option Addr) (n c : Nat) (k : Int) (w : World) (h : RgIn w A n c r) (hk : lastE r k ≠ 0) :
    Calls Tryd.prog 40 #[.agg #[.int .i64 (r).l, .slice A n c, .int .i64 (r).n], .int .i64 k] w fun e w' => e = .returned (.tuple #[.slice none 0 0, .int .i64 (lastE r k)]) ∧ Below w.heap.size w w' := by
  have H := Lib.hid h
  have a6 : (n : Int) ≤ 9223372036854775807 := by have := h.c1; have := h.c2; omega
  rcases last_kinds h.e k hk with ⟨h1, h2⟩ | ⟨h1, h2, h3 | ⟨h3, h4⟩⟩ | ⟨h1, h2, h3, h4, h5⟩
  · have e1 : rgE r = 8 := rgE_no h1
    rw [h2]; clear h hk h2 h1
    go_enter Tryd.func40, Tryd.ntmps40
    go_wp2_with (first | (go_at_call 39; refine (Check_any r A n c _ (H.out.below (by (repeat' (first | (with_reducible exact Below.refl _ _) | (with_reducible assumption) | (with_reducible refine below_drewN ?_ _) | (with_reducible refine below_new ?_ _) | (with_reducible refine Below.alloc ?_ ?_ _) | (with_reducible refine Below.drew ?_) | (with_reducible refine Below.setCell ?_ ?_ _) | (with_reducible apply below_at; (case k => (with_reducible assumption)); (case hB => omega)) | (with_reducible apply below_on; (with_reducible assumption)) | (go_size; done) | (with_reducible apply size_of)))))).mono ?_; rintro e w1 ⟨rfl, hb1⟩; rw [e1]; have K1 : Lies (w1) (w.heap.size) 24 [.int .i64 (r).l, .slice (A) (n) (c), .int .i64 (r).n] := (by (repeat' (first | (with_reducible assumption) | (with_reducible exact Lies.fresh _ _ _) | (with_reducible apply Lies.fresh_at; (first | (with_reducible rfl) | (simp; done))) | (with_reducible refine Lies.drew ?_) | (with_reducible refine Lies.drewN ?_ _) | (with_reducible refine Lies.alloc ?_ _) | (with_reducible apply Lies.past; case hb => (with_reducible assumption)) | (with_reducible apply Lies.keeps; (case k => (with_reducible assumption)); (case ht => decide)) | (with_reducible apply Lies.store3) | (with_reducible apply Lies.other; case hp => (first | omega | (simp; done) | (simp; omega)))))); obtain ⟨p0, p1, p2, -, -, -⟩ := K1.three))
    go_ret2
    exact ⟨rfl, by (repeat' (first | (with_reducible exact Below.refl _ _) | (with_reducible assumption) | (with_reducible refine below_drewN ?_ _) | (with_reducible refine below_new ?_ _) | (with_reducible refine Below.alloc ?_ ?_ _) | (with_reducible refine Below.drew ?_) | (with_reducible refine Below.setCell ?_ ?_ _) | (with_reducible apply below_at; (case k => (with_reducible assumption)); (case hB => omega)) | (with_reducible apply below_on; (with_reducible assumption)) | (go_size; done) | (with_reducible apply size_of)))⟩
  all_goals
    have e1 : rgE r = 0 := rgE_yes h1
    rw [h2]; clear h hk h2 h1
    go_enter Tryd.func40, Tryd.ntmps40
    go_wp2_with (first | (go_at_call 39; refine (Check_any r A n c _ (H.out.below (by (repeat' (first | (with_reducible exact Below.refl _ _) | (with_reducible assumption) | (with_reducible refine below_drewN ?_ _) | (with_reducible refine below_new ?_ _) | (with_reducible refine Below.alloc ?_ ?_ _) | (with_reducible refine Below.drew ?_) | (with_reducible refine Below.setCell ?_ ?_ _) | (with_reducible apply below_at; (case k => (with_reducible assumption)); (case hB => omega)) | (with_reducible apply below_on; (with_reducible assumption)) | (go_size; done) | (with_reducible apply size_of)))))).mono ?_; rintro e w1 ⟨rfl, hb1⟩; rw [e1]; have K1 : Lies (w1) (w.heap.size) 24 [.int .i64 (r).l, .slice (A) (n) (c), .int .i64 (r).n] := (by (repeat' (first | (with_reducible assumption) | (with_reducible exact Lies.fresh _ _ _) | (with_reducible apply Lies.fresh_at; (first | (with_reducible rfl) | (simp; done))) | (with_reducible refine Lies.drew ?_) | (with_reducible refine Lies.drewN ?_ _) | (with_reducible refine Lies.alloc ?_ _) | (with_reducible apply Lies.past; case hb => (with_reducible assumption)) | (with_reducible apply Lies.keeps; (case k => (with_reducible assumption)); (case ht => decide)) | (with_reducible apply Lies.store3) | (with_reducible apply Lies.other; case hp => (first | omega | (simp; done) | (simp; omega)))))); obtain ⟨p0, p1, p2, -, -, -⟩ := K1.three))
    go_ret2
    exact ⟨rfl, by (repeat' (first | (with_reducible exact Below.refl _ _) | (with_reducible assumption) | (with_reducible refine below_drewN ?_ _) | (with_reducible refine below_new ?_ _) | (with_reducible refine Below.alloc ?_ ?_ _) | (with_reducible refine Below.drew ?_) | (with_reducible refine Below.setCell ?_ ?_ _) | (with_reducible apply below_at; (case k => (with_reducible assumption)); (case hB => omega)) | (with_reducible apply below_on; (with_reducible assumption)) | (go_size; done) | (with_reducible apply size_of)))⟩
end Go.Proofs.YtpggdijhfdddpaaDoor.rgW
