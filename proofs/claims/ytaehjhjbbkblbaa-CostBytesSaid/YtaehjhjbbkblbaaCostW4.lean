/- What the check of lists returns; what costs of lists that are refused, and of empty ones, return. -/
import Derived.Test.YtaehjhjbbkblbaaCostW3
import Derived.Test.YtaehjhjbbkblbaaBool
import Derived.Test.YtaehjhjbbkblbaaMem
import Derived.Test.YtaehjhjbbkblbaaReg
import Derived.Test.YtaehjhjbbkblbaaBlock
import Derived.Handy
import Derived.Deep.DeepMust
namespace Go.Proofs.Ytaehjhjbbkblbaa.costW
open Go.RowKit Go.Proofs.Ytaehjhjbbkblbaa.base Go.Proofs.Ytaehjhjbbkblbaa.encP Go.Proofs.Ytaehjhjbbkblbaa.costP Go.Proofs.Ytaehjhjbbkblbaa.encW
set_option linter.unusedVariables false
set_option linter.unusedSimpArgs false

def allC (ps : List Int) : Bool := ps.all cOk
def ckE (ps : List Int) (nb : Nat) : Int := if 2000 < nb then 4 else if ps.length = nb then (if allC ps then 0 else 2) else 2
theorem allC_bad {ps : List Int} {k : Nat} (hk : k < ps.length) (h : cOk (ps.getD k 0) = false) : allC ps = false := by
  rw [Bool.eq_false_iff]
  intro ha
  have : ps.getD k 0 ∈ ps := by rw [List.getD_eq_getElem?_getD, List.getElem?_eq_getElem hk]; simp
  have := List.all_eq_true.1 ha _ this
  rw [h] at this; cases this
theorem allC_next {ps : List Int} {k : Nat} (hk : k < ps.length) (h : allC (ps.take k) = true) (h2 : cOk (ps.getD k 0) = true) : allC (ps.take (k + 1)) = true := by
  rw [take_snoc 0 ps k hk]
  unfold allC at *
  rw [List.all_append, h]
  simp only [List.all_cons, List.all_nil, Bool.and_true, Bool.true_and]
  exact h2
set_option maxHeartbeats 1000000 in
theorem check_any (A B : Option Addr) (lp lb cp cb : Nat) (ps : List Int) (w : World) (hA : Has .i64 w A ps) (el : ps.length = lp) (m1 : lp ≤ 9223372036854775807) (m2 : lb ≤ 9223372036854775807) :
    Calls Try.prog 57 #[.slice A lp cp, .slice B lb cb] w fun e w' => e = .returned (.int .i64 (ckE ps lb)) ∧ w = w' := by
  by_cases h1 : 2000 < lb
  · have g : (2000 : Int) < lb := by omega
    go_enter Try.func57, Try.ntmps57
    go_wp2
    go_ret
    exact ⟨ret1 (by simp [ckE, h1]), rfl⟩
  · have g : ¬ (2000 : Int) < lb := by omega
    by_cases h2 : lp = lb
    · have HA := Lib.hid hA
      have HL := Lib.hid el
      have HC : Hid (ckE ps lb = if allC ps then 0 else 2) := Lib.hid (by rw [ckE, if_neg h1, if_pos (by omega)])
      subst h2
      clear hA el
      go_enter Try.func57, Try.ntmps57
      go_wp2
      go_loop [17] (fun i => ∃ k : Nat, k ≤ lp ∧ i = .int .i64 k ∧ allC (ps.take k) = true) (fun i => lp - (intOf i).toNat)
      case atStart => exact ⟨0, by omega, rfl, rfl⟩
      case round =>
        obtain ⟨k, hk, rfl, hal⟩ := hrel
        have HE := Lib.hid hal
        clear hal
        by_cases hlt : k < lp
        · obtain ⟨b, off, rfl, hb, hc⟩ := has_some HA.out (by have := HL.out; omega)
          have hcell : w.cell? ⟨b, off + k, none⟩ = some (.int .i64 (ps.getD k 0)) := hc k (by have := HL.out; omega)
          have HB := Lib.hid (allC_bad (ps := ps) (k := k) (by have := HL.out; omega))
          have HN := Lib.hid (allC_next (ps := ps) (k := k) (by have := HL.out; omega) HE.out)
          clear hc
          generalize ps.getD k 0 = x at *
          cases hx : cOk x
          · have HX := Lib.hid hx
            clear hx
            go_wp2_with (go_at_call 56; refine (isProbC_any x _).mono ?_; rintro e w' ⟨rfl, rfl⟩; rw [HX.out])
            go_ret
            exact ⟨ret1 (by rw [HC.out, HB.out HX.out]; rfl), rfl⟩
          · have HX := Lib.hid hx
            clear hx
            go_wp2_with (go_at_call 56; refine (isProbC_any x _).mono ?_; rintro e w' ⟨rfl, rfl⟩; rw [HX.out])
            go_round
            case rel => exact ⟨k + 1, by omega, by go_num, HN.out HX.out⟩
            case measure => simp [intOf]; omega
        · have HT : Hid (allC ps = true) := Lib.hid (by have := HE.out; rwa [List.take_of_length_le (by have := HL.out; omega)] at this)
          go_wp2
          go_ret
          exact ⟨ret1 (by rw [HC.out, HT.out]; rfl), rfl⟩
    · have g2 : ¬ (lp : Int) = lb := by omega
      have g3 : ((lp : Int) == lb) = false := by simpa using g2
      go_enter Try.func57, Try.ntmps57
      go_wp2
      go_ret
      exact ⟨ret1 (by rw [ckE, if_neg h1, if_neg (by omega)]), rfl⟩
set_option maxHeartbeats 1000000 in
theorem coded_bad (A B : Option Addr) (lp lb cp cb : Nat) (ps : List Int) (w : World) (hA : Has .i64 w A ps) (el : ps.length = lp) (m1 : lp ≤ 9223372036854775807) (m2 : lb ≤ 9223372036854775807) (x : Int) (hx : ckE ps lb = x) (hn : (x == 0) = false) :
    Calls Try.prog 58 #[.slice A lp cp, .slice B lb cb] w fun e w' => e = .returned (.tuple #[.int .i64 0, .int .i64 0, .int .i64 x]) ∧ w = w' := by
  have K := check_any A B lp lb cp cb ps w hA el m1 m2
  rw [hx] at K
  have hn2 : ¬ x = 0 := by simpa using hn
  clear hx hA el
  go_enter Try.func58, Try.ntmps58
  go_wp2_with (go_at_call 57; refine (K).mono ?_; rintro e w' ⟨rfl, rfl⟩)
  go_ret3
  exact ⟨rfl, rfl⟩
set_option maxHeartbeats 1000000 in
theorem Ideal_bad (A B : Option Addr) (lp lb cp cb : Nat) (ps : List Int) (w : World) (hA : Has .i64 w A ps) (el : ps.length = lp) (m1 : lp ≤ 9223372036854775807) (m2 : lb ≤ 9223372036854775807) (x : Int) (hx : ckE ps lb = x) (hn : (x == 0) = false) :
    Calls Try.prog 39 #[.slice A lp cp, .slice B lb cb] w fun e w' => e = .returned (.tuple #[.int .i64 0, .int .i64 x]) ∧ w = w' := by
  have K := check_any A B lp lb cp cb ps w hA el m1 m2
  rw [hx] at K
  have hn2 : ¬ x = 0 := by simpa using hn
  clear hx hA el
  go_enter Try.func39, Try.ntmps39
  go_wp2_with (go_at_call 57; refine (K).mono ?_; rintro e w' ⟨rfl, rfl⟩)
  go_ret2
  exact ⟨rfl, rfl⟩
set_option maxHeartbeats 1000000 in
theorem Real_bad (A B : Option Addr) (lp lb cp cb : Nat) (ps : List Int) (w : World) (hA : Has .i64 w A ps) (el : ps.length = lp) (m1 : lp ≤ 9223372036854775807) (m2 : lb ≤ 9223372036854775807) (x : Int) (hx : ckE ps lb = x) (hn : (x == 0) = false) :
    Calls Try.prog 41 #[.slice A lp cp, .slice B lb cb] w fun e w' => e = .returned (.tuple #[.int .i64 0, .int .i64 x]) ∧ w = w' := by
  have K := coded_bad A B lp lb cp cb ps w hA el m1 m2 x hx hn
  clear hx hA el hn
  go_enter Try.func41, Try.ntmps41
  go_wp2_with (go_at_call 58; refine (K).mono ?_; rintro e w' ⟨rfl, rfl⟩)
  go_ret2
  exact ⟨rfl, rfl⟩
set_option maxHeartbeats 1000000 in
theorem Bytes_bad (A B : Option Addr) (lp lb cp cb : Nat) (ps : List Int) (w : World) (hA : Has .i64 w A ps) (el : ps.length = lp) (m1 : lp ≤ 9223372036854775807) (m2 : lb ≤ 9223372036854775807) (x : Int) (hx : ckE ps lb = x) (hn : (x == 0) = false) :
    Calls Try.prog 43 #[.slice A lp cp, .slice B lb cb] w fun e w' => e = .returned (.tuple #[.int .i64 0, .int .i64 x]) ∧ w = w' := by
  have K := coded_bad A B lp lb cp cb ps w hA el m1 m2 x hx hn
  clear hx hA el hn
  go_enter Try.func43, Try.ntmps43
  go_wp2_with (go_at_call 58; refine (K).mono ?_; rintro e w' ⟨rfl, rfl⟩)
  go_ret2
  exact ⟨rfl, rfl⟩
set_option maxHeartbeats 1000000 in
theorem New_any (w : World) : Calls Try.prog 22 #[] w fun e w' => e = .returned (.agg #[.int .u32 0, .int .u32 4294967295, .slice none 0 0]) ∧ Below w.heap.size w w' := by
  go_enter Try.func22, Try.ntmps22
  go_wp2
  refine bodyPost_ret (by simp [results, Try.results22, go_sem, ]; try rfl) rfl ?_
  exact ⟨rfl, by (repeat' (first | (with_reducible exact Below.refl _ _) | (with_reducible assumption) | (with_reducible refine below_drewN ?_ _) | (with_reducible refine below_new ?_ _) | (with_reducible refine Below.alloc ?_ ?_ _) | (with_reducible refine Below.drew ?_) | (with_reducible refine Below.setCell ?_ ?_ _) | (with_reducible apply below_at; (case k => (with_reducible assumption)); (case hB => omega)) | (with_reducible apply below_on; (with_reducible assumption)) | (go_size; done) | (with_reducible apply size_of)))⟩
set_option maxHeartbeats 1000000 in
theorem coded_nil (A B : Option Addr) (cp cb : Nat) (w : World) : Calls Try.prog 58 #[.slice A 0 cp, .slice B 0 cb] w fun e w' => e = .returned (.tuple #[.int .i64 0, .int .i64 0, .int .i64 0]) ∧ Below w.heap.size w w' := by
  have K := check_any A B 0 0 cp cb [] w (.inl rfl) rfl (by omega) (by omega)
  rw [show ckE [] 0 = 0 by decide] at K
  go_enter Try.func58, Try.ntmps58
  go_wp2_with (go_at_call 57; refine (K).mono ?_; rintro e w' ⟨rfl, rfl⟩)
  refine (New_any _).mono ?_
  rintro e w1 ⟨rfl, hb1⟩
  go_wp2_with fail
  go_loopw [4, 5, 22] (fun a b i wr => a = .int .i64 0 ∧ b = .int .i64 0 ∧ i = .int .i64 0 ∧ Below w.heap.size w wr) (fun _ _ i _ => 0)
  case atStart => exact ⟨rfl, rfl, rfl, by (repeat' (first | (with_reducible exact Below.refl _ _) | (with_reducible assumption) | (with_reducible refine below_drewN ?_ _) | (with_reducible refine below_new ?_ _) | (with_reducible refine Below.alloc ?_ ?_ _) | (with_reducible refine Below.drew ?_) | (with_reducible refine Below.setCell ?_ ?_ _) | (with_reducible apply below_at; (case k => (with_reducible assumption)); (case hB => omega)) | (with_reducible apply below_on; (with_reducible assumption)) | (go_size; done) | (with_reducible apply size_of)))⟩
  case round =>
    obtain ⟨rfl, rfl, rfl, acc⟩ := hrel
    go_wp2
    go_ret3
    exact ⟨rfl, acc⟩
set_option maxHeartbeats 1000000 in
theorem Real_nil (A B : Option Addr) (cp cb : Nat) (w : World) : Calls Try.prog 41 #[.slice A 0 cp, .slice B 0 cb] w fun e w' => e = .returned (.tuple #[.int .i64 0, .int .i64 0]) ∧ Below w.heap.size w w' := by
  have K := coded_nil A B cp cb w
  go_enter Try.func41, Try.ntmps41
  go_wp2_with (go_at_call 58; refine (K).mono ?_; rintro e w' ⟨rfl, hb⟩)
  go_ret2
  exact ⟨rfl, hb⟩
end Go.Proofs.Ytaehjhjbbkblbaa.costW
