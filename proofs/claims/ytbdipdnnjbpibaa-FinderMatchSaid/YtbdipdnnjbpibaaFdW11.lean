/- Matches, by walks. -/
import Derived.Test.YtbdipdnnjbpibaaFdL
import Derived.Test.YtbdipdnnjbpibaaFdMt
import Derived.BigQuiet
namespace Go.Proofs.Ytbdipdnnjbpibaa.fdW
open Go.RowKit Go.Proofs.Ytbdipdnnjbpibaa.base Go.Proofs.Ytbdipdnnjbpibaa.rgP Go.Proofs.Ytbdipdnnjbpibaa.fdP
set_option linter.unusedVariables false
set_option linter.unusedSimpArgs false

set_option maxHeartbeats 1000000 in
theorem same_any (l q N gone i : Int) (A B : Option Addr) (n c kk d b off G9 G4 G11 G3 : Nat) (ls : List Int) (p1 p2 : Nat) (w : World)
    (h9 : w.cell? ⟨G9, 0, none⟩ = some (.slice (some ⟨b, off, none⟩) kk d)) (h4 : w.cell? ⟨G4, 0, none⟩ = some (.int .i64 q)) (h11 : w.cell? ⟨G11, 0, none⟩ = some (.int .i64 gone)) (h3 : w.cell? ⟨G3, 2, none⟩ = some (.int .i64 N))
    (hc : ∀ j, j < kk → w.cell? ⟨b, off + j, none⟩ = some (.int .u8 (ls.getD j 0))) (g1 : q - gone - i = (p1 : Int)) (g2 : N - gone - i = (p2 : Int)) (hp1 : p1 < kk) (hp2 : p2 < kk)
    (q0 : 0 ≤ q) (q1 : q ≤ 1073741824) (n0 : 0 ≤ N) (n1 : N ≤ 1073741824) (o0 : 0 ≤ gone) (o1 : gone ≤ 1073741824) (i0 : 0 ≤ i) (i1 : i ≤ 100000) (hk : kk ≤ 8192) :
    Calls Try.prog 41 #[.int .i64 i, .pointer (some ⟨G9, 0, none⟩), .pointer (some ⟨G4, 0, none⟩), .pointer (some ⟨G11, 0, none⟩), .pointer (some ⟨G3, 0, none⟩)] w fun e w' => e = .returned (.bool (decide (ls.getD p1 0 = ls.getD p2 0))) ∧ ∃ m, w' = w.drewN m := by
  have c1 := hc p1 hp1
  have c2 := hc p2 hp2
  have a1 : (p1 : Int) < kk := by omega
  have a2 : (p2 : Int) < kk := by omega
  have a3 : (0 : Int) ≤ p1 := by omega
  have a4 : (0 : Int) ≤ p2 := by omega
  have a5 : (kk : Int) ≤ 8192 := by omega
  have hw1 : IntKind.i64.wrap (q - gone) = q - gone := by rw [IntKind.wrap_i64]; omega
  have hw2 : IntKind.i64.wrap (N - gone) = N - gone := by rw [IntKind.wrap_i64]; omega
  have hw3 : IntKind.i64.wrap (q - gone - i) = (p1 : Int) := by rw [IntKind.wrap_i64]; omega
  have hw4 : IntKind.i64.wrap (N - gone - i) = (p2 : Int) := by rw [IntKind.wrap_i64]; omega
  clear hc hp1 hp2 hk
  generalize ls.getD p1 0 = x at *
  generalize ls.getD p2 0 = y at *
  by_cases hxy : x = y
  · subst hxy
    go_enter Try.func41, Try.ntmps41
    go_wp2_with fail
    go_quiet (fail)
    go_wp2_with fail
    go_ret
    exact ⟨retb (by simp), _, rfl⟩
  · have hne : (x == y) = false := by simpa using hxy
    go_enter Try.func41, Try.ntmps41
    go_wp2_with fail
    go_quiet (fail)
    go_wp2_with fail
    go_ret
    exact ⟨retb (by simp [hxy]), _, rfl⟩
end Go.Proofs.Ytbdipdnnjbpibaa.fdW
