/- Finding, copies, comparisons of finders, by walks. -/
import Derived.Test.YtbdipdnnjbpibaaFdW2
namespace Go.Proofs.Ytbdipdnnjbpibaa.fdW
open Go.RowKit Go.Proofs.Ytbdipdnnjbpibaa.base Go.Proofs.Ytbdipdnnjbpibaa.rgP Go.Proofs.Ytbdipdnnjbpibaa.rgW Go.Proofs.Ytbdipdnnjbpibaa.fdP Go.Proofs.Ytbdipdnnjbpibaa.hashW
set_option linter.unusedVariables false
set_option linter.unusedSimpArgs false

theorem fd_parts {f : Fnd} {w : World} {A : Option Addr} {n c : Nat} (h : FdIn w A n c f) (hok : fdOk f = true) (x : Int) : 64 ≤ n ∧ n ≤ 8192 ∧ plc f x < n := by
  have h1 := fd_len hok
  have h2 := plc_lt hok x
  have := h.e
  omega
set_option maxHeartbeats 1000000 in
theorem Find_any (f : Fnd) (A : Option Addr) (n c : Nat) (x : Int) (w : World) (h : FdIn w A n c f) (h1 : 0 ≤ x) (h2 : x ≤ 4294967295) :
    Calls Try.prog 11 #[.agg #[.int .i64 (f).l, .slice A n c], .int .u32 x] w fun e w' => e = .returned (.tuple #[.int .i64 (findV f x), .int .i64 (fdE f)]) ∧ Below w.heap.size w w' := by
  have H := Lib.hid h
  cases hok : fdOk f
  · have HV : Hid (plV f x = 0 ∧ fdE f = 8 ∧ findV f x = 0) := Lib.hid ⟨by rw [plV, if_neg (by rw [hok]; decide)], fdE_no hok, by rw [findV, if_neg (by rw [hok]; decide)]⟩
    clear h hok
    go_enter Try.func11, Try.ntmps11
    go_wp2_with (first | (go_at_call 34; refine (placeOf_any f A n c x _ (H.out.below (by (repeat' (first | (with_reducible exact Below.refl _ _) | (with_reducible assumption) | (with_reducible refine below_drewN ?_ _) | (with_reducible refine below_new ?_ _) | (with_reducible refine Below.alloc ?_ ?_ _) | (with_reducible refine Below.drew ?_) | (with_reducible refine Below.setCell ?_ ?_ _) | (with_reducible apply below_at; (case k => (with_reducible assumption)); (case hB => omega)) | (with_reducible apply below_on; (with_reducible assumption)) | (go_size; done) | (with_reducible apply size_of))))) h1 h2).mono ?_; rintro e w1 ⟨rfl, hb1⟩; rw [HV.out.1, HV.out.2.1]; have K1 : Lies (w1) (w.heap.size) 24 [.int .i64 (f).l, .slice (A) (n) (c)] := (by (repeat' (first | (with_reducible assumption) | (with_reducible exact Lies.fresh _ _ _) | (with_reducible apply Lies.fresh_at; (first | (with_reducible rfl) | (simp; done))) | (with_reducible refine Lies.drew ?_) | (with_reducible refine Lies.drewN ?_ _) | (with_reducible refine Lies.alloc ?_ _) | (with_reducible apply Lies.past; case hb => (with_reducible assumption)) | (with_reducible apply Lies.keeps; (case k => (with_reducible assumption)); (case ht => decide)) | (with_reducible apply Lies.store3) | (with_reducible apply Lies.other; case hp => (first | omega | (simp; done) | (simp; omega)))))); obtain ⟨p0, p1, -, -⟩ := K1.two))
    go_ret2
    exact ⟨ret2 HV.out.2.2.symm HV.out.2.1.symm, by (repeat' (first | (with_reducible exact Below.refl _ _) | (with_reducible assumption) | (with_reducible refine below_drewN ?_ _) | (with_reducible refine below_new ?_ _) | (with_reducible refine Below.alloc ?_ ?_ _) | (with_reducible refine Below.drew ?_) | (with_reducible refine Below.setCell ?_ ?_ _) | (with_reducible apply below_at; (case k => (with_reducible assumption)); (case hB => omega)) | (with_reducible apply below_on; (with_reducible assumption)) | (go_size; done) | (with_reducible apply size_of)))⟩
  · obtain ⟨p, hp⟩ : ∃ p, plc f x = p := ⟨_, rfl⟩
    obtain ⟨b, off, rfl, hb, hc⟩ := has_some h.h (by have := (fd_parts h hok x).1; have := h.e; omega)
    have HV : Hid (plV f x = (p : Int) ∧ fdE f = 0 ∧ findV f x = f.s.getD p 0) := Lib.hid ⟨by rw [plV, if_pos hok, hp], fdE_yes hok, by rw [findV, if_pos hok, hp]⟩
    have hpn : p < n := by rw [← hp]; exact (fd_parts h hok x).2.2
    have q1 : (p : Int) < n := by omega
    have q0 : (0 : Int) ≤ p := by omega
    have HC := Lib.hid (And.intro hb (hc p (by rw [h.e]; exact hpn)))
    clear h hok hc hb hp hpn
    generalize f.s.getD p 0 = y at *
    generalize hA : (some ⟨b, off, none⟩ : Option Addr) = A at H
    go_enter Try.func11, Try.ntmps11
    subst hA
    go_wp2_with (first | (go_at_call 34; refine (placeOf_any f _ n c x _ (H.out.below (by (repeat' (first | (with_reducible exact Below.refl _ _) | (with_reducible assumption) | (with_reducible refine below_drewN ?_ _) | (with_reducible refine below_new ?_ _) | (with_reducible refine Below.alloc ?_ ?_ _) | (with_reducible refine Below.drew ?_) | (with_reducible refine Below.setCell ?_ ?_ _) | (with_reducible apply below_at; (case k => (with_reducible assumption)); (case hB => omega)) | (with_reducible apply below_on; (with_reducible assumption)) | (go_size; done) | (with_reducible apply size_of))))) h1 h2).mono ?_; rintro e w1 ⟨rfl, hb1⟩; rw [HV.out.1, HV.out.2.1]; have K1 : Lies (w1) (w.heap.size) 24 [.int .i64 (f).l, .slice ((some ⟨b, off, none⟩)) (n) (c)] := (by (repeat' (first | (with_reducible assumption) | (with_reducible exact Lies.fresh _ _ _) | (with_reducible apply Lies.fresh_at; (first | (with_reducible rfl) | (simp; done))) | (with_reducible refine Lies.drew ?_) | (with_reducible refine Lies.drewN ?_ _) | (with_reducible refine Lies.alloc ?_ _) | (with_reducible apply Lies.past; case hb => (with_reducible assumption)) | (with_reducible apply Lies.keeps; (case k => (with_reducible assumption)); (case ht => decide)) | (with_reducible apply Lies.store3) | (with_reducible apply Lies.other; case hp => (first | omega | (simp; done) | (simp; omega)))))); obtain ⟨p0, p1, -, -⟩ := K1.two; have c1 : w1.cell? ⟨b, off + p, none⟩ = some (.int .i64 y) := (by rw [(bcell (show Below w.heap.size w w1 by (repeat' (first | (with_reducible exact Below.refl _ _) | (with_reducible assumption) | (with_reducible refine below_drewN ?_ _) | (with_reducible refine below_new ?_ _) | (with_reducible refine Below.alloc ?_ ?_ _) | (with_reducible refine Below.drew ?_) | (with_reducible refine Below.setCell ?_ ?_ _) | (with_reducible apply below_at; (case k => (with_reducible assumption)); (case hB => omega)) | (with_reducible apply below_on; (with_reducible assumption)) | (go_size; done) | (with_reducible apply size_of))))).1 b _ HC.out.1]; exact HC.out.2)))
    go_ret2
    exact ⟨ret2 HV.out.2.2.symm HV.out.2.1.symm, by (repeat' (first | (with_reducible exact Below.refl _ _) | (with_reducible assumption) | (with_reducible refine below_drewN ?_ _) | (with_reducible refine below_new ?_ _) | (with_reducible refine Below.alloc ?_ ?_ _) | (with_reducible refine Below.drew ?_) | (with_reducible refine Below.setCell ?_ ?_ _) | (with_reducible apply below_at; (case k => (with_reducible assumption)); (case hB => omega)) | (with_reducible apply below_on; (with_reducible assumption)) | (go_size; done) | (with_reducible apply size_of)))⟩
set_option maxHeartbeats 1000000 in
theorem rPlace_ok (f : Fnd) (A : Option Addr) (n c : Nat) (x : Int) (w : World) (he : f.s.length = n) (n1 : 64 ≤ n) (n2 : n ≤ 8192) (h1 : 0 ≤ x) (h2 : x ≤ 4294967295) :
    Calls Try.prog 43 #[.agg #[.int .i64 (f).l, .slice A n c], .int .u32 x] w fun e w' => e = .returned (.int .i64 (plc f x : Int)) ∧ Below w.heap.size w w' := by
  have a1 : (64 : Int) ≤ n := by omega
  have a2 : (n : Int) ≤ 8192 := by omega
  have hw : IntKind.u32.wrap (n : Int) = (n : Int) := by rw [IntKind.wrap_u32]; omega
  have a3 : ¬ ((n : Int) = 0) := by omega
  have a4 : ((n : Int) == 0) = false := by simpa using a3
  obtain ⟨r, hr⟩ : ∃ r, Int.tmod x (n : Int) = r := ⟨_, rfl⟩
  have hr2 : x % (n : Int) = r := by rw [← hr, Int.tmod_eq_emod_of_nonneg h1]
  have r1 : 0 ≤ r := by rw [← hr2]; exact Int.emod_nonneg _ a3
  have r2 : r < n := by rw [← hr2]; exact Int.emod_lt_of_pos _ (by omega)
  have HV : Hid ((plc f x : Int) = r) := Lib.hid (by unfold plc; rw [he, hr2]; omega)
  have hw2 : IntKind.u32.wrap r = r := by rw [IntKind.wrap_u32]; omega
  have n0 : ¬ n = 0 := by omega
  have n00 : (n == 0) = false := by simpa using n0
  clear he hr2
  generalize f.l = l at *
  go_enter Try.func43, Try.ntmps43
  go_wp2_with fail
  go_ret
  exact ⟨ret1 HV.out.symm, by (repeat' (first | (with_reducible exact Below.refl _ _) | (with_reducible assumption) | (with_reducible refine below_drewN ?_ _) | (with_reducible refine below_new ?_ _) | (with_reducible refine Below.alloc ?_ ?_ _) | (with_reducible refine Below.drew ?_) | (with_reducible refine Below.setCell ?_ ?_ _) | (with_reducible apply below_at; (case k => (with_reducible assumption)); (case hB => omega)) | (with_reducible apply below_on; (with_reducible assumption)) | (go_size; done) | (with_reducible apply size_of)))⟩
set_option maxHeartbeats 400000 in
theorem rGreat_any (f : Fnd) (A : Option Addr) (n c : Nat) (w : World) (m1 : n ≤ 9223372036854775807) :
    Calls Try.prog 19 #[.agg #[.int .i64 (f).l, .slice A n c]] w fun e w' => e = .returned (.bool (decide (8300 < n))) ∧ Below w.heap.size w w' := by
  generalize f.l = l
  by_cases h1 : 8300 < n
  · have g : ((8300 : Int) < (n : Int)) := by omega
    go_enter Try.func19, Try.ntmps19
    go_wp2
    go_ret
    exact ⟨retb (by simp [h1]), by (repeat' (first | (with_reducible exact Below.refl _ _) | (with_reducible assumption) | (with_reducible refine below_drewN ?_ _) | (with_reducible refine below_new ?_ _) | (with_reducible refine Below.alloc ?_ ?_ _) | (with_reducible refine Below.drew ?_) | (with_reducible refine Below.setCell ?_ ?_ _) | (with_reducible apply below_at; (case k => (with_reducible assumption)); (case hB => omega)) | (with_reducible apply below_on; (with_reducible assumption)) | (go_size; done) | (with_reducible apply size_of)))⟩
  · have g : ¬ ((8300 : Int) < (n : Int)) := by omega
    go_enter Try.func19, Try.ntmps19
    go_wp2
    go_ret
    exact ⟨retb (by simp [h1]), by (repeat' (first | (with_reducible exact Below.refl _ _) | (with_reducible assumption) | (with_reducible refine below_drewN ?_ _) | (with_reducible refine below_new ?_ _) | (with_reducible refine Below.alloc ?_ ?_ _) | (with_reducible refine Below.drew ?_) | (with_reducible refine Below.setCell ?_ ?_ _) | (with_reducible apply below_at; (case k => (with_reducible assumption)); (case hB => omega)) | (with_reducible apply below_on; (with_reducible assumption)) | (go_size; done) | (with_reducible apply size_of)))⟩
end Go.Proofs.Ytbdipdnnjbpibaa.fdW
