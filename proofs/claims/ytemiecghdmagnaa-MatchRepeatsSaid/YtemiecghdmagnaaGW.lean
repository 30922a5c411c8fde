/- Several texts as one: FdW11, FdW12, FdL2, FdL3, FdL4. -/
import Derived.Test.YtemiecghdmagnaaGN
import Derived.Test.YtemiecghdmagnaaGA
import Derived.BigQuiet
import Derived.WalkMore
import Derived.Deep.LoopGhost
namespace Go.Proofs.Ytemiecghdmagnaa.fdW
set_option maxRecDepth 100000
open Go.RowKit Go.Proofs.Ytemiecghdmagnaa.base Go.Proofs.Ytemiecghdmagnaa.rgP Go.Proofs.Ytemiecghdmagnaa.fdP
set_option linter.unusedVariables false
set_option linter.unusedSimpArgs false

set_option maxHeartbeats 1000000 in
theorem same_any (l q N gone i : Int) (A B : Option Addr) (n c kk d b off G9 G4 G11 G3 : Nat) (ls : List Int) (p1 p2 : Nat) (w : World)
    (h9 : w.cell? ⟨G9, 0, none⟩ = some (.slice (some ⟨b, off, none⟩) kk d)) (h4 : w.cell? ⟨G4, 0, none⟩ = some (.int .i64 q)) (h11 : w.cell? ⟨G11, 0, none⟩ = some (.int .i64 gone)) (h3 : w.cell? ⟨G3, 2, none⟩ = some (.int .i64 N))
    (hc : ∀ j, j < kk → w.cell? ⟨b, off + j, none⟩ = some (.int .u8 (ls.getD j 0))) (g1 : q - gone - i = (p1 : Int)) (g2 : N - gone - i = (p2 : Int)) (hp1 : p1 < kk) (hp2 : p2 < kk)
    (q0 : 0 ≤ q) (q1 : q ≤ 1073741824) (n0 : 0 ≤ N) (n1 : N ≤ 1073741824) (o0 : 0 ≤ gone) (o1 : gone ≤ 1073741824) (i0 : 0 ≤ i) (i1 : i ≤ 100000) (hk : kk ≤ 8192) :
    Calls Try.prog 83 #[.int .i64 i, .pointer (some ⟨G9, 0, none⟩), .pointer (some ⟨G4, 0, none⟩), .pointer (some ⟨G11, 0, none⟩), .pointer (some ⟨G3, 0, none⟩)] w fun e w' => e = .returned (.bool (decide (ls.getD p1 0 = ls.getD p2 0))) ∧ ∃ m, w' = w.drewN m := by
  have c1 := hc p1 hp1
  have c2 := hc p2 hp2
  have a1 : (p1 : Int) < kk := by omega
  have a2 : (p2 : Int) < kk := by omega
  have a3 : (0 : Int) ≤ p1 := by omega
  have a4 : (0 : Int) ≤ p2 := by omega
  have a5 : (kk : Int) ≤ 8192 := by omega
  have hw1 : IntKind.i64.wrap (q - gone) = q - gone := by rw [IntKind.wrap_i64]; omega
  have hw2 : IntKind.i64.wrap (N - gone) = N - gone := by rw [IntKind.wrap_i64]; omega
  have hw3 : IntKind.i64.wrap (q - gone - i) = (p1 : Int) := by rw [IntKind.wrap_i64]; omega
  have hw4 : IntKind.i64.wrap (N - gone - i) = (p2 : Int) := by rw [IntKind.wrap_i64]; omega
  clear hc hp1 hp2 hk
  generalize ls.getD p1 0 = x at *
  generalize ls.getD p2 0 = y at *
  by_cases hxy : x = y
  · subst hxy
    go_enter Try.func83, Try.ntmps83
    go_wp2_with fail
    go_quiet (fail)
    go_wp2_with fail
    go_ret
    exact ⟨retb (by simp), _, rfl⟩
  · have hne : (x == y) = false := by simpa using hxy
    go_enter Try.func83, Try.ntmps83
    go_wp2_with fail
    go_quiet (fail)
    go_wp2_with fail
    go_ret
    exact ⟨retb (by simp [hxy]), _, rfl⟩
end Go.Proofs.Ytemiecghdmagnaa.fdW

namespace Go.Proofs.Ytemiecghdmagnaa.fdW
set_option maxRecDepth 100000
open Go.RowKit Go.Proofs.Ytemiecghdmagnaa.base Go.Proofs.Ytemiecghdmagnaa.rgP Go.Proofs.Ytemiecghdmagnaa.fdP
set_option linter.unusedVariables false
set_option linter.unusedSimpArgs false

theorem len_kinds {r : Rg} {q m : Int} (h : lenE r q m ≠ 0) : rgOk r = false ∧ lenE r q m = 8 ∨ rgOk r = true ∧ lenE r q m = 2 ∧ (q < 0 ∨ ¬ q < 0 ∧ r.n < q ∨ ¬ q < 0 ∧ ¬ r.n < q ∧ m < 0) := by
  unfold lenE at *
  cases hok : rgOk r
  · left; simp
  · right
    rw [hok] at h
    simp only [if_true] at h ⊢
    by_cases c : 0 ≤ q ∧ q ≤ r.n ∧ 0 ≤ m
    · rw [if_pos c] at h; exact absurd rfl h
    · rw [if_neg c]
      exact ⟨by trivial, by trivial, by omega⟩
set_option maxHeartbeats 2000000 in
theorem Length_bad (r : Rg) (A : Option Addr) (n c : Nat) (q m : Int) (w : World) (h : RgIn w A n c r) (hk : lenE r q m ≠ 0) :
    Calls Try.prog 67 #[.agg #[.int .i64 (r).l, .slice A n c, .int .i64 (r).n], .int .i64 q, .int .i64 m] w fun e w' => e = .returned (.tuple #[.int .i64 0, .int .i64 (lenE r q m)]) ∧ Below w.heap.size w w' := by
  have H := Lib.hid h
  rcases len_kinds hk with ⟨a1, a2⟩ | ⟨a1, a2, a3 | ⟨a3, a4⟩ | ⟨a3, a4, a5⟩⟩
  · have e1 := rgW.rgE_no a1
    rw [a2]; clear h hk a1 a2
    go_enter Try.func67, Try.ntmps67
    go_wp2_with fail
    go_step3
    go_wp2_with (first | (go_at_call 33; refine (rgW.Check_any r A n c _ (H.out.below (by (repeat' (first | (with_reducible exact Below.refl _ _) | (with_reducible assumption) | (with_reducible refine below_drewN ?_ _) | (with_reducible refine below_new ?_ _) | (with_reducible refine Below.alloc ?_ ?_ _) | (with_reducible refine Below.drew ?_) | (with_reducible refine Below.setCell ?_ ?_ _) | (with_reducible apply below_at; (case k => (with_reducible assumption)); (case hB => omega)) | (with_reducible apply below_on; (with_reducible assumption)) | (go_size; done) | (with_reducible apply size_of)))))).mono ?_; rintro e w1 ⟨rfl, hb1⟩; rw [e1]; have K1 : Lies (w1) (w.heap.size) 26 [.int .i64 (r).l, .slice (A) (n) (c), .int .i64 (r).n] := (by (repeat' (first | (with_reducible assumption) | (with_reducible exact Lies.fresh _ _ _) | (with_reducible apply Lies.fresh_at; (first | (with_reducible rfl) | (simp; done))) | (with_reducible refine Lies.drew ?_) | (with_reducible refine Lies.drewN ?_ _) | (with_reducible refine Lies.alloc ?_ _) | (with_reducible apply Lies.past; case hb => (with_reducible assumption)) | (with_reducible apply Lies.keeps; (case k => (with_reducible assumption)); (case ht => decide)) | (with_reducible apply Lies.store3) | (with_reducible apply Lies.other; case hp => (first | omega | (simp; done) | (simp; omega)))))); have N1 : Lies (w1) (w.heap.size + 1) 3 [.int .i64 q] := (by (repeat' (first | (with_reducible assumption) | (with_reducible exact Lies.fresh _ _ _) | (with_reducible apply Lies.fresh_at; (first | (with_reducible rfl) | (simp; done))) | (with_reducible refine Lies.drew ?_) | (with_reducible refine Lies.drewN ?_ _) | (with_reducible refine Lies.alloc ?_ _) | (with_reducible apply Lies.past; case hb => (with_reducible assumption)) | (with_reducible apply Lies.keeps; (case k => (with_reducible assumption)); (case ht => decide)) | (with_reducible apply Lies.store3) | (with_reducible apply Lies.other; case hp => (first | omega | (simp; done) | (simp; omega)))))); obtain ⟨p0, p1, p2, -, -, -⟩ := K1.three; obtain ⟨q0, -⟩ := N1.one; have HK1 := Lib.hid K1; have HN1 := Lib.hid N1; have HB1 := Lib.hid hb1; have lt1 := N1.lt; have lt0 := K1.lt))
    rw [Exit.noGoto_ret]
    go_ret2
    exact ⟨rfl, by have := HB1.out; (repeat' (first | (with_reducible exact Below.refl _ _) | (with_reducible assumption) | (with_reducible refine below_drewN ?_ _) | (with_reducible refine below_new ?_ _) | (with_reducible refine Below.alloc ?_ ?_ _) | (with_reducible refine Below.drew ?_) | (with_reducible refine Below.setCell ?_ ?_ _) | (with_reducible apply below_at; (case k => (with_reducible assumption)); (case hB => omega)) | (with_reducible apply below_on; (with_reducible assumption)) | (go_size; done) | (with_reducible apply size_of)))⟩
  all_goals
    have e1 := rgW.rgE_yes a1
    rw [a2]; clear h hk a1 a2
    go_enter Try.func67, Try.ntmps67
    go_wp2_with fail
    go_step3
    go_wp2_with (first | (go_at_call 33; refine (rgW.Check_any r A n c _ (H.out.below (by (repeat' (first | (with_reducible exact Below.refl _ _) | (with_reducible assumption) | (with_reducible refine below_drewN ?_ _) | (with_reducible refine below_new ?_ _) | (with_reducible refine Below.alloc ?_ ?_ _) | (with_reducible refine Below.drew ?_) | (with_reducible refine Below.setCell ?_ ?_ _) | (with_reducible apply below_at; (case k => (with_reducible assumption)); (case hB => omega)) | (with_reducible apply below_on; (with_reducible assumption)) | (go_size; done) | (with_reducible apply size_of)))))).mono ?_; rintro e w1 ⟨rfl, hb1⟩; rw [e1]; have K1 : Lies (w1) (w.heap.size) 26 [.int .i64 (r).l, .slice (A) (n) (c), .int .i64 (r).n] := (by (repeat' (first | (with_reducible assumption) | (with_reducible exact Lies.fresh _ _ _) | (with_reducible apply Lies.fresh_at; (first | (with_reducible rfl) | (simp; done))) | (with_reducible refine Lies.drew ?_) | (with_reducible refine Lies.drewN ?_ _) | (with_reducible refine Lies.alloc ?_ _) | (with_reducible apply Lies.past; case hb => (with_reducible assumption)) | (with_reducible apply Lies.keeps; (case k => (with_reducible assumption)); (case ht => decide)) | (with_reducible apply Lies.store3) | (with_reducible apply Lies.other; case hp => (first | omega | (simp; done) | (simp; omega)))))); have N1 : Lies (w1) (w.heap.size + 1) 3 [.int .i64 q] := (by (repeat' (first | (with_reducible assumption) | (with_reducible exact Lies.fresh _ _ _) | (with_reducible apply Lies.fresh_at; (first | (with_reducible rfl) | (simp; done))) | (with_reducible refine Lies.drew ?_) | (with_reducible refine Lies.drewN ?_ _) | (with_reducible refine Lies.alloc ?_ _) | (with_reducible apply Lies.past; case hb => (with_reducible assumption)) | (with_reducible apply Lies.keeps; (case k => (with_reducible assumption)); (case ht => decide)) | (with_reducible apply Lies.store3) | (with_reducible apply Lies.other; case hp => (first | omega | (simp; done) | (simp; omega)))))); obtain ⟨p0, p1, p2, -, -, -⟩ := K1.three; obtain ⟨q0, -⟩ := N1.one; have HK1 := Lib.hid K1; have HN1 := Lib.hid N1; have HB1 := Lib.hid hb1; have lt1 := N1.lt; have lt0 := K1.lt))
    rw [Exit.noGoto_ret]
    go_ret2
    exact ⟨rfl, by have := HB1.out; (repeat' (first | (with_reducible exact Below.refl _ _) | (with_reducible assumption) | (with_reducible refine below_drewN ?_ _) | (with_reducible refine below_new ?_ _) | (with_reducible refine Below.alloc ?_ ?_ _) | (with_reducible refine Below.drew ?_) | (with_reducible refine Below.setCell ?_ ?_ _) | (with_reducible apply below_at; (case k => (with_reducible assumption)); (case hB => omega)) | (with_reducible apply below_on; (with_reducible assumption)) | (go_size; done) | (with_reducible apply size_of)))⟩
/-- What the walk sees of a place: is the byte before gone? -/
theorem gone_no {r : Rg} {q i : Int} {kk : Nat} {gone : Int} (hk : (kk : Int) = min r.n (r.b.length : Int)) (hg : gone = r.n - kk) (q1 : q ≤ r.n) (h : q - i < gone) : eqB r q i = false := by
  have e : thB r (q - i) = false := by
    unfold thB
    by_cases c : 0 ≤ q - i
    · rw [decide_eq_false (p := r.n - (q - i) ≤ (r.b.length : Int)) (by omega)]; simp
    · rw [decide_eq_false c, Bool.false_and]
  unfold eqB; rw [e, Bool.false_and]
theorem gone_yes {r : Rg} {q i : Int} {kk p1 p2 : Nat} {gone : Int} (hk : (kk : Int) = min r.n (r.b.length : Int)) (hg : gone = r.n - kk) (n0 : 0 ≤ r.n) (q0 : 0 ≤ q) (q1 : q ≤ r.n) (i1 : 1 ≤ i) (h : gone ≤ q - i) (e1 : q - gone - i = (p1 : Int)) (e2 : r.n - gone - i = (p2 : Int)) : p1 < kk ∧ p2 < kk ∧ eqB r q i = decide ((lastL r kk).getD p1 0 = (lastL r kk).getD p2 0) := by
  have a1 : p1 < kk := by omega
  have a2 : p2 < kk := by omega
  refine ⟨a1, a2, ?_⟩
  have t1 : thB r (q - i) = true := by
    unfold thB; rw [decide_eq_true (p := 0 ≤ q - i) (by omega), decide_eq_true (p := q - i < r.n) (by omega), decide_eq_true (by omega)]; rfl
  have t2 : thB r (r.n - i) = true := by
    unfold thB; rw [decide_eq_true (p := 0 ≤ r.n - i) (by omega), decide_eq_true (p := r.n - i < r.n) (by omega), decide_eq_true (by omega)]; rfl
  have l1 := rgW.lastL_at r kk p1 a1
  have l2 := rgW.lastL_at r kk p2 a2
  rw [show (kk : Int) - (p1 : Int) = r.n - (q - i) by omega] at l1
  rw [show (kk : Int) - (p2 : Int) = i by omega] at l2
  unfold eqB; rw [t1, t2, Bool.true_and, Bool.true_and, l1, l2]
set_option maxHeartbeats 4000000 in
theorem Length_ok (r : Rg) (A : Option Addr) (n c : Nat) (q m : Int) (w : World) (h : RgIn w A n c r) (hk : lenE r q m = 0) (m9 : m ≤ 9223372036854775807) :
    Calls Try.prog 67 #[.agg #[.int .i64 (r).l, .slice A n c, .int .i64 (r).n], .int .i64 q, .int .i64 m] w fun e w' => e = .returned (.tuple #[.int .i64 (min (full r q : Int) m), .int .i64 0]) ∧ Below w.heap.size w w' := by
  have H := Lib.hid h
  obtain ⟨hok, d1, d2, d3⟩ := lenE_parts hk
  obtain ⟨a1, a2, n0, n1⟩ := rgW.ok_parts h hok
  have e1 := rgW.rgE_yes hok
  obtain ⟨kk, hkk⟩ : ∃ kk : Nat, (kk : Int) = min r.n (n : Int) := ⟨min r.n.toNat n, by omega⟩
  have hmin : min r.n (n : Int) = (kk : Int) := hkk.symm
  have hle : lastE r kk = 0 := by rw [lastE, if_pos hok, if_pos ⟨by omega, by have := h.e; omega⟩, if_neg (by omega)]
  have HLE := Lib.hid hle
  have HKK : Hid ((kk : Int) = min r.n (r.b.length : Int) ∧ kk ≤ 8192 ∧ (kk : Int) ≤ r.n) := Lib.hid ⟨by rw [h.e]; exact hkk, by omega, by omega⟩
  have HFU : Hid (∀ k : Nat, (∀ i : Nat, i < k → eqB r q ((i : Int) + 1) = true) → k ≤ full r q) := Lib.hid (fun k hh => full_at hok d2 hh)
  have HFL : Hid (full r q ≤ 8192) := Lib.hid (by have := full_le (n := q) hok d2; have := h.e; omega)
  have HFE : Hid (∀ k : Nat, k < full r q → eqB r q ((k : Int) + 1) = true) := Lib.hid (fun k hh => full_eq hh)
  have hk1 : (kk : Int) ≤ r.n := by omega
  have hk0 : (0 : Int) ≤ kk := by omega
  have g1 : ¬ q < 0 := by omega
  have g2 : ¬ r.n < q := by omega
  have g3 : ¬ m < 0 := by omega
  clear h hk hok a1 a2 hkk hle
  go_enter Try.func67, Try.ntmps67
  go_wp2_with fail
  go_step3
  go_wp2_with (first | (go_at_call 33; refine (rgW.Check_any r A n c _ (H.out.below (by (repeat' (first | (with_reducible exact Below.refl _ _) | (with_reducible assumption) | (with_reducible refine below_drewN ?_ _) | (with_reducible refine below_new ?_ _) | (with_reducible refine Below.alloc ?_ ?_ _) | (with_reducible refine Below.drew ?_) | (with_reducible refine Below.setCell ?_ ?_ _) | (with_reducible apply below_at; (case k => (with_reducible assumption)); (case hB => omega)) | (with_reducible apply below_on; (with_reducible assumption)) | (go_size; done) | (with_reducible apply size_of)))))).mono ?_; rintro e w1 ⟨rfl, hb1⟩; rw [e1]; have K1 : Lies (w1) (w.heap.size) 26 [.int .i64 (r).l, .slice (A) (n) (c), .int .i64 (r).n] := (by (repeat' (first | (with_reducible assumption) | (with_reducible exact Lies.fresh _ _ _) | (with_reducible apply Lies.fresh_at; (first | (with_reducible rfl) | (simp; done))) | (with_reducible refine Lies.drew ?_) | (with_reducible refine Lies.drewN ?_ _) | (with_reducible refine Lies.alloc ?_ _) | (with_reducible apply Lies.past; case hb => (with_reducible assumption)) | (with_reducible apply Lies.keeps; (case k => (with_reducible assumption)); (case ht => decide)) | (with_reducible apply Lies.store3) | (with_reducible apply Lies.other; case hp => (first | omega | (simp; done) | (simp; omega)))))); have N1 : Lies (w1) (w.heap.size + 1) 3 [.int .i64 q] := (by (repeat' (first | (with_reducible assumption) | (with_reducible exact Lies.fresh _ _ _) | (with_reducible apply Lies.fresh_at; (first | (with_reducible rfl) | (simp; done))) | (with_reducible refine Lies.drew ?_) | (with_reducible refine Lies.drewN ?_ _) | (with_reducible refine Lies.alloc ?_ _) | (with_reducible apply Lies.past; case hb => (with_reducible assumption)) | (with_reducible apply Lies.keeps; (case k => (with_reducible assumption)); (case ht => decide)) | (with_reducible apply Lies.store3) | (with_reducible apply Lies.other; case hp => (first | omega | (simp; done) | (simp; omega)))))); obtain ⟨p0, p1, p2, -, -, -⟩ := K1.three; obtain ⟨q0, -⟩ := N1.one; have HK1 := Lib.hid K1; have HN1 := Lib.hid N1; have HB1 := Lib.hid hb1; have lt1 := N1.lt; have lt0 := K1.lt) | (go_at_call 64; refine (rgW.Last_ok r A n c kk _ (H.out.below (by have := HB1.out; (repeat' (first | (with_reducible exact Below.refl _ _) | (with_reducible assumption) | (with_reducible refine below_drewN ?_ _) | (with_reducible refine below_new ?_ _) | (with_reducible refine Below.alloc ?_ ?_ _) | (with_reducible refine Below.drew ?_) | (with_reducible refine Below.setCell ?_ ?_ _) | (with_reducible apply below_at; (case k => (with_reducible assumption)); (case hB => omega)) | (with_reducible apply below_on; (with_reducible assumption)) | (go_size; done) | (with_reducible apply size_of))))) HLE.out).mono ?_; rintro e w2 ⟨B, d, rfl, -, -, hB, hb2⟩; have K2 : Lies (w2) (w.heap.size) 26 [.int .i64 (r).l, .slice (A) (n) (c), .int .i64 (r).n] := (by have := HK1.out; (repeat' (first | (with_reducible assumption) | (with_reducible exact Lies.fresh _ _ _) | (with_reducible apply Lies.fresh_at; (first | (with_reducible rfl) | (simp; done))) | (with_reducible refine Lies.drew ?_) | (with_reducible refine Lies.drewN ?_ _) | (with_reducible refine Lies.alloc ?_ _) | (with_reducible apply Lies.past; case hb => (with_reducible assumption)) | (with_reducible apply Lies.keeps; (case k => (with_reducible assumption)); (case ht => decide)) | (with_reducible apply Lies.store3) | (with_reducible apply Lies.other; case hp => (first | omega | (simp; done) | (simp; omega)))))); have N2 : Lies (w2) (w.heap.size + 1) 3 [.int .i64 q] := (by have := HN1.out; (repeat' (first | (with_reducible assumption) | (with_reducible exact Lies.fresh _ _ _) | (with_reducible apply Lies.fresh_at; (first | (with_reducible rfl) | (simp; done))) | (with_reducible refine Lies.drew ?_) | (with_reducible refine Lies.drewN ?_ _) | (with_reducible refine Lies.alloc ?_ _) | (with_reducible apply Lies.past; case hb => (with_reducible assumption)) | (with_reducible apply Lies.keeps; (case k => (with_reducible assumption)); (case ht => decide)) | (with_reducible apply Lies.store3) | (with_reducible apply Lies.other; case hp => (first | omega | (simp; done) | (simp; omega)))))); obtain ⟨p0', p1', p2', -, -, -⟩ := K2.three; obtain ⟨q0', -⟩ := N2.one; have HK2 := Lib.hid K2; have HN2 := Lib.hid N2; have HHB := Lib.hid hB; have HB2 := Lib.hid hb2; have lt2 := N2.lt; have lt3 := K2.lt))
  go_step3
  go_wp2_with fail
  have HX9 : Hid (Lies ((w2.alloc (.cells #[.slice B kk d] 24)).alloc (.cells #[.int .i64 (r.n - kk)] 3)) w2.heap.size 24 [.slice B kk d] ∧ Lies ((w2.alloc (.cells #[.slice B kk d] 24)).alloc (.cells #[.int .i64 (r.n - kk)] 3)) (w2.heap.size + 1) 3 [.int .i64 (r.n - kk)] ∧ (Lies ((w2.alloc (.cells #[.slice B kk d] 24)).alloc (.cells #[.int .i64 (r.n - kk)] 3)) (w.heap.size) 26 [.int .i64 (r).l, .slice (A) (n) (c), .int .i64 (r).n]) ∧ (Lies ((w2.alloc (.cells #[.slice B kk d] 24)).alloc (.cells #[.int .i64 (r.n - kk)] 3)) (w.heap.size + 1) 3 [.int .i64 q]) ∧ Has .u8 ((w2.alloc (.cells #[.slice B kk d] 24)).alloc (.cells #[.int .i64 (r.n - kk)] 3)) B (lastL r kk) ∧ Below w.heap.size w ((w2.alloc (.cells #[.slice B kk d] 24)).alloc (.cells #[.int .i64 (r.n - kk)] 3))) := Lib.hid ⟨by (repeat' (first | (with_reducible assumption) | (with_reducible exact Lies.fresh _ _ _) | (with_reducible apply Lies.fresh_at; (first | (with_reducible rfl) | (simp; done))) | (with_reducible refine Lies.drew ?_) | (with_reducible refine Lies.drewN ?_ _) | (with_reducible refine Lies.alloc ?_ _) | (with_reducible apply Lies.past; case hb => (with_reducible assumption)) | (with_reducible apply Lies.keeps; (case k => (with_reducible assumption)); (case ht => decide)) | (with_reducible apply Lies.store3) | (with_reducible apply Lies.other; case hp => (first | omega | (simp; done) | (simp; omega))))), by (repeat' (first | (with_reducible assumption) | (with_reducible exact Lies.fresh _ _ _) | (with_reducible apply Lies.fresh_at; (first | (with_reducible rfl) | (simp; done))) | (with_reducible refine Lies.drew ?_) | (with_reducible refine Lies.drewN ?_ _) | (with_reducible refine Lies.alloc ?_ _) | (with_reducible apply Lies.past; case hb => (with_reducible assumption)) | (with_reducible apply Lies.keeps; (case k => (with_reducible assumption)); (case ht => decide)) | (with_reducible apply Lies.store3) | (with_reducible apply Lies.other; case hp => (first | omega | (simp; done) | (simp; omega))))), by have := HK2.out; (repeat' (first | (with_reducible assumption) | (with_reducible exact Lies.fresh _ _ _) | (with_reducible apply Lies.fresh_at; (first | (with_reducible rfl) | (simp; done))) | (with_reducible refine Lies.drew ?_) | (with_reducible refine Lies.drewN ?_ _) | (with_reducible refine Lies.alloc ?_ _) | (with_reducible apply Lies.past; case hb => (with_reducible assumption)) | (with_reducible apply Lies.keeps; (case k => (with_reducible assumption)); (case ht => decide)) | (with_reducible apply Lies.store3) | (with_reducible apply Lies.other; case hp => (first | omega | (simp; done) | (simp; omega))))), by have := HN2.out; (repeat' (first | (with_reducible assumption) | (with_reducible exact Lies.fresh _ _ _) | (with_reducible apply Lies.fresh_at; (first | (with_reducible rfl) | (simp; done))) | (with_reducible refine Lies.drew ?_) | (with_reducible refine Lies.drewN ?_ _) | (with_reducible refine Lies.alloc ?_ _) | (with_reducible apply Lies.past; case hb => (with_reducible assumption)) | (with_reducible apply Lies.keeps; (case k => (with_reducible assumption)); (case ht => decide)) | (with_reducible apply Lies.store3) | (with_reducible apply Lies.other; case hp => (first | omega | (simp; done) | (simp; omega))))), HHB.out.below (by (repeat' (first | (with_reducible exact Below.refl _ _) | (with_reducible assumption) | (with_reducible refine below_drewN ?_ _) | (with_reducible refine below_new ?_ _) | (with_reducible refine Below.alloc ?_ ?_ _) | (with_reducible refine Below.drew ?_) | (with_reducible refine Below.setCell ?_ ?_ _) | (with_reducible apply below_at; (case k => (with_reducible assumption)); (case hB => omega)) | (with_reducible apply below_on; (with_reducible assumption)) | (go_size; done) | (with_reducible apply size_of)))) (Nat.le_refl _), by have := HB1.out; have := HB2.out; (repeat' (first | (with_reducible exact Below.refl _ _) | (with_reducible assumption) | (with_reducible refine below_drewN ?_ _) | (with_reducible refine below_new ?_ _) | (with_reducible refine Below.alloc ?_ ?_ _) | (with_reducible refine Below.drew ?_) | (with_reducible refine Below.setCell ?_ ?_ _) | (with_reducible apply below_at; (case k => (with_reducible assumption)); (case hB => omega)) | (with_reducible apply below_on; (with_reducible assumption)) | (go_size; done) | (with_reducible apply size_of)))⟩
  clear K1 N1 K2 N2 p0 p1 p2 q0 p0' p1' p2' q0' hb1 hb2 hB lt1 lt0 lt2 lt3
  go_loopw [53, 13] (fun i j wr => ∃ k : Nat, i = .int .i64 (k : Int) ∧ j = .int .i64 (k : Int) ∧ (k : Int) ≤ m ∧ (∀ i : Nat, i < k → eqB r q ((i : Int) + 1) = true) ∧ Lies wr w2.heap.size 24 [.slice B kk d] ∧ Lies wr (w2.heap.size + 1) 3 [.int .i64 (r.n - kk)] ∧ (Lies (wr) (w.heap.size) 26 [.int .i64 (r).l, .slice (A) (n) (c), .int .i64 (r).n]) ∧ (Lies (wr) (w.heap.size + 1) 3 [.int .i64 q]) ∧ Has .u8 wr B (lastL r kk) ∧ Below w.heap.size w wr) (fun i _ _ => 8300 - (intOf i).toNat)
  case atStart => exact ⟨0, rfl, rfl, d3, fun i hi => by omega, HX9.out⟩
  case round =>
    clear HX9
    obtain ⟨k, rfl, rfl, hkm, hall, T9, T11, T3, T4, hh, acc⟩ := hrel
    have H9 := Lib.hid T9
    have H11 := Lib.hid T11
    have H3 := Lib.hid T3
    have H4 := Lib.hid T4
    have HH := Lib.hid hh
    have HA := Lib.hid acc
    have HALL := Lib.hid hall
    have hkf := HFU.out k hall
    have hk8 : k ≤ 8192 := by have := HFL.out; omega
    have hk9 : (k : Int) ≤ 8192 := by omega
    have kz : (0 : Int) ≤ k := by omega
    obtain ⟨c9, -⟩ := T9.one
    obtain ⟨c11, -⟩ := T11.one
    obtain ⟨c4, -⟩ := T4.one
    obtain ⟨r0, r1, r2, -, -, -⟩ := T3.three
    by_cases hlt : (k : Int) < m
    · by_cases hgo : q - ((k : Int) + 1) < r.n - kk
      · have hno := gone_no HKK.out.1 rfl d2 hgo
        have HV : Hid (full r q = k) := Lib.hid (by
          rcases Nat.lt_or_ge k (full r q) with h1 | h1
          · rw [HFE.out k h1] at hno; cases hno
          · omega)
        have hgo2 : q - (k : Int) - 1 < r.n - kk := by omega
        clear T9 T11 T3 T4 hh acc hall hkf hk8 hno hgo
        go_wp2_with fail
        rw [Exit.noGoto_ret]
        go_ret2
        exact ⟨ret2 (by rw [HV.out]; omega) rfl, by have := HA.out; (repeat' (first | (with_reducible exact Below.refl _ _) | (with_reducible assumption) | (with_reducible refine below_drewN ?_ _) | (with_reducible refine below_new ?_ _) | (with_reducible refine Below.alloc ?_ ?_ _) | (with_reducible refine Below.drew ?_) | (with_reducible refine Below.setCell ?_ ?_ _) | (with_reducible apply below_at; (case k => (with_reducible assumption)); (case hB => omega)) | (with_reducible apply below_on; (with_reducible assumption)) | (go_size; done) | (with_reducible apply size_of)))⟩
      · obtain ⟨p1, hp1⟩ : ∃ p1 : Nat, q - (r.n - kk) - ((k : Int) + 1) = (p1 : Int) := ⟨(q - (r.n - kk) - ((k : Int) + 1)).toNat, by omega⟩
        obtain ⟨p2, hp2⟩ : ∃ p2 : Nat, r.n - (r.n - kk) - ((k : Int) + 1) = (p2 : Int) := ⟨(r.n - (r.n - kk) - ((k : Int) + 1)).toNat, by omega⟩
        obtain ⟨u1, u2, u3⟩ := gone_yes HKK.out.1 rfl n0 d1 d2 (by omega : 1 ≤ (k : Int) + 1) (by omega) hp1 hp2
        obtain ⟨b, off, rfl, hb, hc⟩ := has_some hh (by rw [rgW.lastL_len]; omega)
        have HC : Hid (∀ j, j < kk → _root_.Go.World.cell? _ ⟨b, off + j, none⟩ = some (.int .u8 ((lastL r kk).getD j 0))) := Lib.hid (fun j hj => hc j (by rw [rgW.lastL_len]; exact hj))
        have HP := Lib.hid (And.intro hp1 (And.intro hp2 (And.intro u1 u2)))
        have HEQ := Lib.hid u3
        obtain ⟨x, hx⟩ : ∃ x, decide ((lastL r kk).getD p1 0 = (lastL r kk).getD p2 0) = x := ⟨_, rfl⟩
        have HX := Lib.hid hx
        have hgo2 : ¬ q - (k : Int) - 1 < r.n - kk := by omega
        clear T9 T11 T3 T4 hh acc hall hkf hk8 hgo hp1 hp2 u1 u2 u3 hc hx
        cases x
        · have HV : Hid (full r q = k) := Lib.hid (by
            have hno : eqB r q ((k : Int) + 1) = false := by rw [HEQ.out, HX.out]
            have hkf := HFU.out k HALL.out
            rcases Nat.lt_or_ge k (full r q) with h1 | h1
            · rw [HFE.out k h1] at hno; cases hno
            · omega)
          go_wp2_with fail
          refine (same_any r.l q r.n (r.n - kk) ((k : Int) + 1) A none n c kk d b off w2.heap.size (w.heap.size + 1) (w2.heap.size + 1) w.heap.size (lastL r kk) p1 p2 _ c9 c4 c11 r2 HC.out HP.out.1 HP.out.2.1 HP.out.2.2.1 HP.out.2.2.2 d1 (by omega) n0 n1 (by omega) (by omega) (by omega) (by omega) HKK.out.2.1).mono ?_
          rintro e w4 ⟨rfl, m4, rfl⟩
          rw [HX.out]
          go_wp2_with fail
          rw [Exit.noGoto_ret]
          go_ret2
          exact ⟨ret2 (by rw [HV.out]; omega) rfl, by have := HA.out; (repeat' (first | (with_reducible exact Below.refl _ _) | (with_reducible assumption) | (with_reducible refine below_drewN ?_ _) | (with_reducible refine below_new ?_ _) | (with_reducible refine Below.alloc ?_ ?_ _) | (with_reducible refine Below.drew ?_) | (with_reducible refine Below.setCell ?_ ?_ _) | (with_reducible apply below_at; (case k => (with_reducible assumption)); (case hB => omega)) | (with_reducible apply below_on; (with_reducible assumption)) | (go_size; done) | (with_reducible apply size_of)))⟩
        · have HN : Hid (∀ i : Nat, i < k + 1 → eqB r q ((i : Int) + 1) = true) := Lib.hid (fun i hi => by
            rcases Nat.lt_or_ge i k with h1 | h1
            · exact HALL.out i h1
            · rw [show i = k by omega, HEQ.out, HX.out])
          go_wp2_with fail
          refine (same_any r.l q r.n (r.n - kk) ((k : Int) + 1) A none n c kk d b off w2.heap.size (w.heap.size + 1) (w2.heap.size + 1) w.heap.size (lastL r kk) p1 p2 _ c9 c4 c11 r2 HC.out HP.out.1 HP.out.2.1 HP.out.2.2.1 HP.out.2.2.2 d1 (by omega) n0 n1 (by omega) (by omega) (by omega) (by omega) HKK.out.2.1).mono ?_
          rintro e w4 ⟨rfl, m4, rfl⟩
          rw [HX.out]
          go_wp2_with fail
          go_roundw
          case rel => exact ⟨k + 1, by go_num, by go_num, by omega, HN.out, H9.out.drewN _, H11.out.drewN _, H3.out.drewN _, H4.out.drewN _, HH.out, by have := HA.out; (repeat' (first | (with_reducible exact Below.refl _ _) | (with_reducible assumption) | (with_reducible refine below_drewN ?_ _) | (with_reducible refine below_new ?_ _) | (with_reducible refine Below.alloc ?_ ?_ _) | (with_reducible refine Below.drew ?_) | (with_reducible refine Below.setCell ?_ ?_ _) | (with_reducible apply below_at; (case k => (with_reducible assumption)); (case hB => omega)) | (with_reducible apply below_on; (with_reducible assumption)) | (go_size; done) | (with_reducible apply size_of)))⟩
          case measure => simp [intOf]; omega
    · have HV : Hid ((full r q : Int) ≥ m) := Lib.hid (by omega)
      clear T9 T11 T3 T4 hh acc hall hkf hk8
      go_wp2_with fail
      go_ret2
      exact ⟨ret2 (by have := HV.out; omega) rfl, by have := HA.out; (repeat' (first | (with_reducible exact Below.refl _ _) | (with_reducible assumption) | (with_reducible refine below_drewN ?_ _) | (with_reducible refine below_new ?_ _) | (with_reducible refine Below.alloc ?_ ?_ _) | (with_reducible refine Below.drew ?_) | (with_reducible refine Below.setCell ?_ ?_ _) | (with_reducible apply below_at; (case k => (with_reducible assumption)); (case hB => omega)) | (with_reducible apply below_on; (with_reducible assumption)) | (go_size; done) | (with_reducible apply size_of)))⟩
end Go.Proofs.Ytemiecghdmagnaa.fdW

namespace Go.Proofs.Ytemiecghdmagnaa.fdL
set_option maxRecDepth 100000
open Go.RowKit Go.Proofs.Ytemiecghdmagnaa.base Go.Proofs.Ytemiecghdmagnaa.rgP Go.Proofs.Ytemiecghdmagnaa.fdP Go.Proofs.Ytemiecghdmagnaa.fdW Go.Proofs.Ytemiecghdmagnaa.hashW
set_option linter.unusedVariables false
set_option linter.unusedSimpArgs false

theorem full_val {r : Rg} {n : Int} {k : Nat} (hok : rgOk r = true) (h1 : n ≤ r.n) (h : ∀ i : Nat, i < k → eqB r n ((i : Int) + 1) = true) (hk : eqB r n ((k : Int) + 1) = false) : full r n = k := by
  have a := full_at hok h1 h
  rcases Nat.lt_or_ge k (full r n) with h2 | h2
  · rw [full_eq h2] at hk; cases hk
  · omega
theorem Length_any (r : Rg) (A : Option Addr) (n c : Nat) (q m : Int) (w : World) (h : RgIn w A n c r) (m9 : m ≤ 9223372036854775807) :
    Calls Try.prog 67 #[.agg #[.int .i64 (r).l, .slice A n c, .int .i64 (r).n], .int .i64 q, .int .i64 m] w fun e w' => e = .returned (.tuple #[.int .i64 (lenV r q m), .int .i64 (lenE r q m)]) ∧ Below w.heap.size w w' := by
  by_cases hk : lenE r q m = 0
  · refine (Length_ok r A n c q m w h hk m9).mono ?_
    rintro e w1 ⟨rfl, hb⟩
    exact ⟨by rw [lenV, if_pos hk, hk], hb⟩
  · refine (Length_bad r A n c q m w h hk).mono ?_
    rintro e w1 ⟨rfl, hb⟩
    exact ⟨by rw [lenV, if_neg hk], hb⟩
end Go.Proofs.Ytemiecghdmagnaa.fdL

namespace Go.Proofs.Ytemiecghdmagnaa.fdL
set_option maxRecDepth 100000
open Go.RowKit Go.Proofs.Ytemiecghdmagnaa.base Go.Proofs.Ytemiecghdmagnaa.rgP Go.Proofs.Ytemiecghdmagnaa.fdP Go.Proofs.Ytemiecghdmagnaa.fdW Go.Proofs.Ytemiecghdmagnaa.hashW
set_option linter.unusedVariables false
set_option linter.unusedSimpArgs false

theorem only_facts {f : Fnd} (hok : fdOk f = true) (x y k m : Int) (k0 : 0 ≤ k) (k1 : k ≤ 1073741824) (m0 : 0 ≤ m) (m1 : m ≤ 1073741824) (p q : Nat) (hp : plc f x = p) (hq : plc f y = q) :
    (fputE f k = 0 ∧ fputV f x k = ⟨f.l, f.s.set p k⟩ ∧ fputE f m = 0 ∧ fputV f x m = ⟨f.l, f.s.set p m⟩ ∧ fputE ⟨f.l, f.s.set p k⟩ m = 0 ∧ fputV ⟨f.l, f.s.set p k⟩ x m = ⟨f.l, f.s.set p m⟩) ∧ fdOk ⟨f.l, f.s.set p k⟩ = true ∧ findV f y = f.s.getD q 0 ∧ findV ⟨f.l, f.s.set p k⟩ y = (f.s.set p k).getD q 0 := by
  have e1 : fputE f k = 0 := by rw [fputE, if_pos hok, if_pos ⟨k0, k1⟩]
  have e2 : fputE f m = 0 := by rw [fputE, if_pos hok, if_pos ⟨m0, m1⟩]
  have f1 : fput f x k = ⟨f.l, f.s.set p k⟩ := by unfold fput; rw [hp]
  have ok2 : fdOk ⟨f.l, f.s.set p k⟩ = true := by rw [← f1]; exact fput_ok hok k0 k1
  have pl : ∀ z, plc ⟨f.l, f.s.set p k⟩ z = plc f z := fun z => by unfold plc; simp
  have e3 : fputE ⟨f.l, f.s.set p k⟩ m = 0 := by rw [fputE, if_pos ok2, if_pos ⟨m0, m1⟩]
  refine ⟨⟨e1, by rw [fputV, if_pos e1, f1], e2, by rw [fputV, if_pos e2]; unfold fput; rw [hp], e3, ?_⟩, ok2, by rw [findV, if_pos hok, hq], by rw [findV, if_pos ok2, pl, hq]⟩
  rw [fputV, if_pos e3]
  unfold fput
  rw [pl, hp]
  simp
end Go.Proofs.Ytemiecghdmagnaa.fdL

namespace Go.Proofs.Ytemiecghdmagnaa.fdL
set_option maxRecDepth 100000
open Go.RowKit Go.Proofs.Ytemiecghdmagnaa.base Go.Proofs.Ytemiecghdmagnaa.rgP Go.Proofs.Ytemiecghdmagnaa.fdP Go.Proofs.Ytemiecghdmagnaa.fdW Go.Proofs.Ytemiecghdmagnaa.hashW
set_option linter.unusedVariables false
set_option linter.unusedSimpArgs false

theorem Put_own (f : Fnd) (A : Option Addr) (n c : Nat) (x k : Int) (w : World) (h : FdIn w A n c f) (h1 : 0 ≤ x) (h2 : x ≤ 4294967295) :
    Calls Try.prog 44 #[.agg #[.int .i64 (f).l, .slice A n c], .int .u32 x, .int .i64 k] w fun e w' => ∃ A' n' c', e = .returned (.tuple #[.agg #[.int .i64 (fputV f x k).l, .slice A' n' c'], .int .i64 (fputE f k)]) ∧ FdIn w' A' n' c' (fputV f x k) ∧ OwnV w' w.heap.size (.slice A' n' c') (fputV f x k).s ∧ Below w.heap.size w w' := by
  by_cases hk : fputE f k = 0
  · refine (Put_ok f A n c x k w h h1 h2 hk).mono ?_
    rintro e w1 ⟨g, d, rfl, ho, hb1⟩
    have e1 : fputV f x k = fput f x k := by unfold fputV; rw [if_pos hk]
    rw [e1, hk]
    exact ⟨_, _, _, rfl, fput_in h hk ho, .inl ho, hb1⟩
  · refine (Put_bad f A n c x k w h h1 h2 hk).mono ?_
    rintro e w1 ⟨rfl, hb1⟩
    have e1 : fputV f x k = zeroF := by unfold fputV; rw [if_neg hk]
    rw [e1]
    exact ⟨none, 0, 0, rfl, zero_in _, .inr ⟨rfl, none, rfl⟩, hb1⟩
def pl (n : Nat) (x : Int) : Nat := (x % (n : Int)).toNat
theorem plc_pl {l : Int} {s : List Int} {n : Nat} (h : s.length = n) (x : Int) : plc ⟨l, s⟩ x = pl n x := by unfold plc pl; show (x % (s.length : Int)).toNat = _; rw [h]
theorem last_step {l : Int} {s : List Int} {n k : Nat} {x y wv : Int} (hn : s.length = n) (hok : fdOk ⟨l, s⟩ = true) (hk : k ≤ 40) (hw : s.getD (pl n x) 0 = wv) :
    fputE ⟨l, s⟩ (k : Int) = 0 ∧ fputV ⟨l, s⟩ y k = ⟨l, s.set (pl n y) k⟩ ∧ fdOk ⟨l, s.set (pl n y) k⟩ = true ∧ (s.set (pl n y) (k : Int)).length = n ∧ (s.set (pl n y) (k : Int)).getD (pl n x) 0 = (if pl n y = pl n x then (k : Int) else wv) := by
  have e1 : fputE ⟨l, s⟩ (k : Int) = 0 := by rw [fputE, if_pos hok, if_pos ⟨by omega, by omega⟩]
  have f1 : fput ⟨l, s⟩ y k = ⟨l, s.set (pl n y) k⟩ := by unfold fput; rw [plc_pl hn]
  have hlt : pl n y < s.length := by have := plc_lt hok y; rw [plc_pl hn] at this; exact this
  refine ⟨e1, by rw [fputV, if_pos e1, f1], by rw [← f1]; exact fput_ok hok (by omega) (by omega), by rw [List.length_set, hn], ?_⟩
  rw [getD_set_row _ _ _ _ hlt, hw]
theorem turned1 {f : FuncId} {args : Array Value} {w : World} {v : Value} (h : Calls Try.prog f args w fun e w' => e = .returned v ∧ w = w') : Calls Try.prog f args w fun e w' => e = .returned v ∧ w' = w := h.mono fun e w' ⟨a, b⟩ => ⟨a, b.symm⟩
end Go.Proofs.Ytemiecghdmagnaa.fdL
