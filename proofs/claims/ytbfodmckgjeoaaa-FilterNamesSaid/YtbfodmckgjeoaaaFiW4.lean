/- Filters: how long a run is, and the reference's counting, by walks. -/
import Derived.Test.YtbfodmckgjeoaaaFiW3
import Derived.Test.YtbfodmckgjeoaaaFiPlain2
namespace Go.Proofs.Ytbfodmckgjeoaaa.fiW
set_option maxRecDepth 100000
open Go.RowKit Go.Proofs.Ytbfodmckgjeoaaa.base Go.Proofs.Ytbfodmckgjeoaaa.fiP
set_option linter.unusedVariables false
set_option linter.unusedSimpArgs false
set_option maxHeartbeats 1000000 in
theorem rLength (b : List Int) (A : Option Addr) (n c i : Nat) (w : World) (h : Ib w A n c b) (hl : n ≤ 20000) (hi : i < n) :
    Calls Try.prog 53 #[.slice A n c, .int .i64 (i : Int)] w fun e w' => e = .returned (.int .i64 (rl b i : Nat)) ∧ Below w.heap.size w w' := by
  have HH := Lib.hid h
  have hn : b.length = n := h.e
  have HN := Lib.hid hn
  have HL := Lib.hid hl
  have n9 : (n : Int) ≤ 20000 := by omega
  have i1 : (i : Int) < n := by omega
  have i2 : i < n := hi
  have HI := Lib.hid hi
  clear h hn hl hi
  go_enter Try.func53, Try.ntmps53
  go_wp2_with fail
  go_loopw [5] (fun j wr => ∃ k : Nat, 1 ≤ k ∧ k ≤ 257 ∧ i + k ≤ n ∧ j = .int .i64 k ∧ rl b i = rlN b i (257 - k) k ∧ Below w.heap.size w wr) (fun j _ => 257 - (intOf j).toNat)
  case atStart => exact ⟨1, Nat.le_refl _, by omega, by have := HI.out; omega, rfl, rfl, Below.refl _ _⟩
  case round =>
    obtain ⟨k, k1, k257, hik, rfl, hr, acc⟩ := hrel
    have HR := Lib.hid hr
    have HACC := Lib.hid acc
    have HK := Lib.hid (And.intro k1 (And.intro k257 hik))
    have w1 : IntKind.i64.wrap ((i : Int) + k) = (i : Int) + k := IntWalk.i64_in _ (by omega)
    have w2 : 0 ≤ (i : Int) + k := by omega
    have w3 : ((i : Int) + k).toNat = i + k := by omega
    by_cases c1 : i + k < n
    · obtain ⟨bb, off, rfl, hbb, hc⟩ := in_at HH.out acc HI.out
      have p1 := hc (i + k) c1
      have p2 := hc i HI.out
      have q1 : (i : Int) + k < n := by omega
      have HY := Lib.hid (fun (h : k < 257) (e : b.getD (i + k) 0 = b.getD i 0) => rlN_yes (b := b) (i := i) h (by rw [HN.out]; exact c1) e)
      have HNO := Lib.hid (fun (h : ¬ (k < 257 ∧ b.getD (i + k) 0 = b.getD i 0)) => rlN_no (b := b) (i := i) (n := k) (fun hh => h ⟨hh.1, hh.2.2⟩))
      generalize b.getD (i + k) 0 = x at *
      generalize b.getD i 0 = y at *
      by_cases hxy : x = y
      · subst hxy
        by_cases c2 : k < 257
        · have HRR := Lib.hid (HY.out c2 rfl)
          have q2 : (k : Int) < 257 := by omega
          have q3 : decide ((k : Int) < 257) = true := decide_eq_true q2
          have HC := Lib.hid (And.intro c1 c2)
          clear hr acc k1 k257 hik c1 c2 hc
          go_wp2_with fail
          go_quiet (fail)
          clear w1 w3
          go_wp2_with fail
          go_roundw
          case rel => exact ⟨k + 1, by omega, by have := HC.out; omega, by have := HC.out; omega, by go_num, by rw [HR.out, HRR.out], by have := HACC.out; (repeat' (first | (with_reducible exact Below.refl _ _) | (with_reducible assumption) | (with_reducible refine below_drewN ?_ _) | (with_reducible refine below_new ?_ _) | (with_reducible refine Below.alloc ?_ ?_ _) | (with_reducible refine Below.drew ?_) | (with_reducible refine Below.setCell ?_ ?_ _) | (with_reducible apply below_at; (case k => (with_reducible assumption)); (case hB => omega)) | (with_reducible apply below_on; (with_reducible assumption)) | (go_size; done) | (with_reducible apply size_of)))⟩
          case measure => simp [intOf]; have := HC.out; omega
        · have HRR := Lib.hid (HNO.out (fun hh => c2 hh.1))
          have q2 : (257 : Int) ≤ k := by omega
          have q3 : decide ((k : Int) < 257) = false := decide_eq_false (by omega)
          clear hr acc k1 k257 hik c1 c2 hc
          go_wp2_with fail
          go_quiet (fail)
          clear w1 w3
          go_wp2_with fail
          go_ret
          exact ⟨by rw [HR.out, HRR.out]; rfl, by have := HACC.out; (repeat' (first | (with_reducible exact Below.refl _ _) | (with_reducible assumption) | (with_reducible refine below_drewN ?_ _) | (with_reducible refine below_new ?_ _) | (with_reducible refine Below.alloc ?_ ?_ _) | (with_reducible refine Below.drew ?_) | (with_reducible refine Below.setCell ?_ ?_ _) | (with_reducible apply below_at; (case k => (with_reducible assumption)); (case hB => omega)) | (with_reducible apply below_on; (with_reducible assumption)) | (go_size; done) | (with_reducible apply size_of)))⟩
      · have hne : (x == y) = false := by simpa using hxy
        have HRR := Lib.hid (HNO.out (fun hh => hxy hh.2))
        clear hr acc k1 k257 hik c1 hc
        go_wp2_with fail
        go_quiet (fail)
        clear w1 w3
        go_wp2_with fail
        go_ret
        exact ⟨by rw [HR.out, HRR.out]; rfl, by have := HACC.out; (repeat' (first | (with_reducible exact Below.refl _ _) | (with_reducible assumption) | (with_reducible refine below_drewN ?_ _) | (with_reducible refine below_new ?_ _) | (with_reducible refine Below.alloc ?_ ?_ _) | (with_reducible refine Below.drew ?_) | (with_reducible refine Below.setCell ?_ ?_ _) | (with_reducible apply below_at; (case k => (with_reducible assumption)); (case hB => omega)) | (with_reducible apply below_on; (with_reducible assumption)) | (go_size; done) | (with_reducible apply size_of)))⟩
    · have HRR := Lib.hid (rlN_no (b := b) (i := i) (n := k) (fun hh => c1 (by rw [← HN.out]; exact hh.2.1)))
      have q1 : (n : Int) ≤ (i : Int) + k := by omega
      have q3 : decide ((i : Int) + k < n) = false := decide_eq_false (by omega)
      clear hr acc k1 k257 hik c1
      go_wp2_with fail
      go_quiet (fail)
      clear w1 w3
      go_wp2_with fail
      go_ret
      exact ⟨by rw [HR.out, HRR.out]; rfl, by have := HACC.out; (repeat' (first | (with_reducible exact Below.refl _ _) | (with_reducible assumption) | (with_reducible refine below_drewN ?_ _) | (with_reducible refine below_new ?_ _) | (with_reducible refine Below.alloc ?_ ?_ _) | (with_reducible refine Below.drew ?_) | (with_reducible refine Below.setCell ?_ ?_ _) | (with_reducible apply below_at; (case k => (with_reducible assumption)); (case hB => omega)) | (with_reducible apply below_on; (with_reducible assumption)) | (go_size; done) | (with_reducible apply size_of)))⟩
end Go.Proofs.Ytbfodmckgjeoaaa.fiW
