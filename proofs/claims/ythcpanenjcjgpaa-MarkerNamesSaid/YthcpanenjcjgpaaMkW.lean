/- Markers, small functions, by walks. -/
import Derived.Test.YthcpanenjcjgpaaRows8
import Derived.Test.YthcpanenjcjgpaaOwnZ
import Derived.Test.YthcpanenjcjgpaaReg
import Derived.Test.YthcpanenjcjgpaaMkPlain2
import Derived.Deep.QuietTactic
import Derived.Deep.LoopGhost
import Derived.Lib.Hide
import Derived.IntWalk
import Derived.Lib.SmallJoins
namespace Go.Proofs.Ythcpanenjcjgpaa.mkW
open Go.RowKit Go.Proofs.Ythcpanenjcjgpaa.base Go.Proofs.Ythcpanenjcjgpaa.mkP
set_option linter.unusedVariables false
set_option linter.unusedSimpArgs false
/-- A row that was just written out by a conversion of a constant. -/
theorem has_mark {w : World} {e : TypeId} {zs : List Int} {g : Nat} {fr : Nat × Nat} (hg : w.heap.size = g) : Has .u8 (w.alloc (.cells (zs.map (Value.int .u8)).toArray e fr)) (some ⟨g, 0, none⟩) zs := by
  refine .inr ⟨g, 0, rfl, by rw [← hg]; simp, fun i hi => ?_⟩
  rw [Joins.cell_alloc_mark_at w _ e fr g _ hg.symm, Nat.zero_add]
  simp [List.getD_eq_getElem?_getD, List.getElem?_eq_getElem hi]
theorem rBytes (w : World) : Calls Try.prog 23 #[] w fun e w' => e = .returned (.slice (some ⟨w.heap.size, 0, none⟩) 13 13) ∧ OwnI w' w.heap.size 5 .u8 (.slice (some ⟨w.heap.size, 0, none⟩) 13 13) mk ∧ Below w.heap.size w w' := by
  go_enter Try.func23, Try.ntmps23
  go_wp2_with fail
  go_ret
  exact ⟨rfl, OwnI.lit w 5 .u8 mk _ (Nat.le_refl _) (by decide), by (repeat' (first | (with_reducible exact Below.refl _ _) | (with_reducible assumption) | (with_reducible refine below_drewN ?_ _) | (with_reducible refine below_new ?_ _) | (with_reducible refine Below.alloc ?_ ?_ _) | (with_reducible refine Below.drew ?_) | (with_reducible refine Below.setCell ?_ ?_ _) | (with_reducible apply below_at; (case k => (with_reducible assumption)); (case hB => omega)) | (with_reducible apply below_on; (with_reducible assumption)) | (go_size; done) | (with_reducible apply size_of)))⟩
theorem Bytes_any (w : World) : Calls Try.prog 21 #[] w fun e w' => e = .returned (.slice (some ⟨w.heap.size, 0, none⟩) 13 13) ∧ w' = w.alloc (.cells (mk.map (Value.int .u8)).toArray 5 (13, 14)) := by
  have kc := fun (w : World) (C : Array Value) (n c g : Nat) (hg : g = w.heap.size) => Joins.run_convert_bytes_const_at (P := Try.prog) w 22 5 C n c g hg Try.underlying22 Try.underlying5
  go_enter Try.func21, Try.ntmps21
  go_wp2_with fail
  go_ret
  exact ⟨rfl, rfl⟩
/-- The error of bytes. -/
def chE (b : List Int) : Int := if b.length ≤ 50000 then 0 else 4
theorem chE_yes {b : List Int} (h : b.length ≤ 50000) : chE b = 0 := by rw [chE, if_pos h]
theorem chE_no {b : List Int} (h : ¬ b.length ≤ 50000) : chE b = 4 := by rw [chE, if_neg h]
theorem rCheck (b : List Int) (A : Option Addr) (n c : Nat) (w : World) (h : InR w ⟨A, n, c, b⟩) : Calls Try.prog 28 #[.slice A n c] w fun e w' => e = .returned (.int .i64 (chE b)) ∧ w = w' := by
  have e : b.length = n := h.e
  have n9 : (n : Int) ≤ 9223372036854775807 := by have h1 : n ≤ c := h.c1; have h2 : c ≤ 9223372036854775807 := h.c2; omega
  by_cases c1 : n ≤ 50000
  · have HV := Lib.hid (chE_yes (b := b) (by omega))
    have k1 : ¬ (50000 : Int) < n := by omega
    clear h e c1
    go_enter Try.func28, Try.ntmps28
    go_wp2_with fail
    go_ret
    exact ⟨ret1 HV.out.symm, rfl⟩
  · have HV := Lib.hid (chE_no (b := b) (by omega))
    have k1 : (50000 : Int) < n := by omega
    clear h e c1
    go_enter Try.func28, Try.ntmps28
    go_wp2_with fail
    go_ret
    exact ⟨ret1 HV.out.symm, rfl⟩
/-- The error of bytes and an index. -/
def asE (b : List Int) (i : Int) : Int := if b.length ≤ 50000 then (if 0 ≤ i ∧ i ≤ b.length then 0 else 2) else 4
theorem rAsked (b : List Int) (A : Option Addr) (n c : Nat) (i : Int) (w : World) (h : InR w ⟨A, n, c, b⟩) (l1 : -9223372036854775808 ≤ i) (l2 : i ≤ 9223372036854775807) : Calls Try.prog 25 #[.slice A n c, .int .i64 i] w fun e w' => e = .returned (.int .i64 (asE b i)) ∧ w = w' := by
  have e : b.length = n := h.e
  have n9 : (n : Int) ≤ 9223372036854775807 := by have h1 : n ≤ c := h.c1; have h2 : c ≤ 9223372036854775807 := h.c2; omega
  have HH := Lib.hid h
  by_cases c1 : n ≤ 50000
  · have HC := Lib.hid (chE_yes (b := b) (by omega))
    by_cases c2 : 0 ≤ i
    · by_cases c3 : i ≤ n
      · have HV : Hid (asE b i = 0) := Lib.hid (by rw [asE, if_pos (by omega), if_pos (by omega)])
        clear h e c1
        go_enter Try.func25, Try.ntmps25
        go_wp2_with (go_at_call 28; refine (rCheck b A n c _ HH.out).mono ?_; rintro e w' ⟨rfl, rfl⟩; rw [HC.out])
        go_ret
        exact ⟨ret1 HV.out.symm, rfl⟩
      · have HV : Hid (asE b i = 2) := Lib.hid (by rw [asE, if_pos (by omega), if_neg (by omega)])
        clear h e c1
        go_enter Try.func25, Try.ntmps25
        go_wp2_with (go_at_call 28; refine (rCheck b A n c _ HH.out).mono ?_; rintro e w' ⟨rfl, rfl⟩; rw [HC.out])
        go_ret
        exact ⟨ret1 HV.out.symm, rfl⟩
    · have HV : Hid (asE b i = 2) := Lib.hid (by rw [asE, if_pos (by omega), if_neg (by omega)])
      clear h e c1
      go_enter Try.func25, Try.ntmps25
      go_wp2_with (go_at_call 28; refine (rCheck b A n c _ HH.out).mono ?_; rintro e w' ⟨rfl, rfl⟩; rw [HC.out])
      go_ret
      exact ⟨ret1 HV.out.symm, rfl⟩
  · have HC := Lib.hid (chE_no (b := b) (by omega))
    have HV : Hid (asE b i = 4) := Lib.hid (by rw [asE, if_neg (by omega)])
    clear h e c1
    go_enter Try.func25, Try.ntmps25
    go_wp2_with (go_at_call 28; refine (rCheck b A n c _ HH.out).mono ?_; rintro e w' ⟨rfl, rfl⟩; rw [HC.out])
    go_ret
    exact ⟨ret1 HV.out.symm, rfl⟩
end Go.Proofs.Ythcpanenjcjgpaa.mkW
