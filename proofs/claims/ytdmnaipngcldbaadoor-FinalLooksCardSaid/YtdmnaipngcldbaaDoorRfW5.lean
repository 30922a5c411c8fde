/- What the reference sees in a row, by a walk. -/
import Derived.Test.YtdmnaipngcldbaaDoorRfW4
import Derived.Test.YtdmnaipngcldbaaDoorOrd
namespace Go.Proofs.YtdmnaipngcldbaaDoor.rfP
set_option maxRecDepth 100000
/-- The near place. -/
def nearJ (t : Nat) : Nat := if 64 ≤ t % 128 then t / 128 + 1 else t / 128
/-- What is seen. -/
def seenP (z : List Int) (t : Nat) : Int := lkP (z.getD (t / 128) 0) (z.getD (t / 128 + 1) 0) ((t % 128 : Nat) : Int)
end Go.Proofs.YtdmnaipngcldbaaDoor.rfP
namespace Go.Proofs.YtdmnaipngcldbaaDoor.rfW
set_option maxRecDepth 100000
open Go.RowKit Go.Proofs.YtdmnaipngcldbaaDoor.base Go.Proofs.YtdmnaipngcldbaaDoor.rfP
set_option linter.unusedVariables false
set_option linter.unusedSimpArgs false
set_option maxHeartbeats 2000000 in
theorem Seen_any (A : Option Addr) (c : Nat) (z : List Int) (t : Nat) (w : World) (h : Has .i32 w A z) (hr : rowB z = true) (ht : t ≤ 4095) :
    Calls Tryd.prog 46 #[.slice A 33 c, .int .i32 ((t : Int) - 2048)] w fun e w' => e = .returned (.tuple #[.int .i32 (seenP z t), .int .i64 (nearJ t)]) ∧ ∃ n, w' = w.drewN n := by
  obtain ⟨hl, hb⟩ := (rowB_iff z).1 hr
  obtain ⟨b, off, rfl, hlt, hc⟩ := has_some h (by omega)
  have hj : t / 128 < 32 := by omega
  have hu : t % 128 < 128 := Nat.mod_lt _ (by omega)
  have z1 := hc (t / 128) (by omega)
  have z2 := hc (t / 128 + 1) (by omega)
  have hg : ∀ k, k < 33 → 0 ≤ z.getD k 0 ∧ z.getD k 0 ≤ 65535 := fun k hk => by
    rw [List.getD_eq_getElem?_getD, List.getElem?_eq_getElem (by omega)]
    exact hb _ (List.getElem_mem _)
  obtain ⟨p0, p1⟩ := hg (t / 128) (by omega)
  obtain ⟨q0, q1⟩ := hg (t / 128 + 1) (by omega)
  have e1 : IntKind.i64.wrap ((t : Int) - 2048) = (t : Int) - 2048 := IntWalk.i64_in _ (by omega)
  have e2 : IntKind.i64.wrap ((t : Int) - 2048 + 2048) = t := by rw [IntWalk.i64_in _ (by omega)]; omega
  have e3 : Int.tdiv (t : Int) 128 = (t / 128 : Nat) := rfl
  have e4 : Int.tmod (t : Int) 128 = (t % 128 : Nat) := rfl
  have HS : Hid (seenP z t = lkP (z.getD (t / 128) 0) (z.getD (t / 128 + 1) 0) ((t % 128 : Nat) : Int) ∧ nearJ t = if 64 ≤ t % 128 then t / 128 + 1 else t / 128) := Lib.hid ⟨rfl, rfl⟩
  clear hr hb hc h hg hl
  generalize seenP z t = sp at *
  generalize nearJ t = nj at *
  generalize hj' : t / 128 = j at *
  generalize hu' : t % 128 = u at *
  generalize z.getD j 0 = x at *
  generalize z.getD (j + 1) 0 = y at *
  clear hj' hu'
  have HX := Lib.hid hlt
  obtain ⟨m0, m1, m2, m3⟩ := lk_parts p0 p1 q0 q1 (w := (u : Int)) (by omega) (by omega)
  have m4 := lk_bd p0 p1 q0 q1 (w := (u : Int)) (by omega) (by omega)
  have m5 := lk_range p0 p1 q0 q1 (w := (u : Int)) (by omega) (by omega)
  unfold lkP at m5 HS
  have e5 : IntKind.i64.wrap (128 - (u : Int)) = 128 - u := IntWalk.i64_in _ (by omega)
  have e6 : IntKind.i64.wrap x = x := IntWalk.i64_in _ (by omega)
  have e7 : IntKind.i64.wrap y = y := IntWalk.i64_in _ (by omega)
  generalize hP1 : (128 - (u : Int)) * x = P1 at *
  generalize hP2 : (u : Int) * y = P2 at *
  have e8 : IntKind.i64.wrap P1 = P1 := IntWalk.i64_in _ (by omega)
  have e9 : IntKind.i64.wrap P2 = P2 := IntWalk.i64_in _ (by omega)
  have ea : IntKind.i64.wrap (P1 + P2) = P1 + P2 := IntWalk.i64_in _ (by omega)
  have eb : Int.tdiv (P1 + P2) 2048 = (P1 + P2) / 2048 := Int.tdiv_eq_ediv_of_nonneg (by omega)
  obtain ⟨v, hv⟩ : ∃ v, (P1 + P2) / 2048 = v := ⟨_, rfl⟩
  rw [hv] at eb m5 HS
  have ec : IntKind.i32.wrap v = v := by rw [IntKind.wrap_i32]; omega
  have ed : IntKind.i64.wrap v = v := IntWalk.i64_in _ (by omega)
  have HV := Lib.hid hv
  have j0 : 0 ≤ (j : Int) := by omega
  have j1 : (j : Int) < 32 := by omega
  have j2 : (j : Int) + 1 < 33 := by omega
  have j3 : (j : Int) < 33 := by omega
  have j4 : IntKind.i64.wrap ((j : Int) + 1) = (j : Int) + 1 := IntWalk.i64_in _ (by omega)
  have j5 : ((j : Int) + 1).toNat = j + 1 := by omega
  have ef : IntKind.i64.wrap (t : Int) = t := IntWalk.i64_in _ (by omega)
  have eg : IntKind.i64.wrap (j : Int) = j := IntWalk.i64_in _ (by omega)
  clear e2
  clear hv ht hj hu m0 m1 m2 m3 m4 m5 p0 p1 q0 q1
  by_cases hu : 64 ≤ u
  · have u1 : 64 ≤ (u : Int) := by omega
    rw [if_pos hu] at HS
    clear hu
    go_enter Tryd.func46, Tryd.ntmps46
    go_wp2_with (go_quiet (fail))
    refine bodyPost_ret (by simp [results, Tryd.results46, go_sem, ]; try rfl) rfl ?_
    exact ⟨by rw [HS.out.1, HS.out.2]; rfl, nq, rfl⟩
  · have u1 : ¬ 64 ≤ (u : Int) := by omega
    rw [if_neg hu] at HS
    clear hu
    go_enter Tryd.func46, Tryd.ntmps46
    go_wp2_with (go_quiet (fail))
    refine bodyPost_ret (by simp [results, Tryd.results46, go_sem, ]; try rfl) rfl ?_
    exact ⟨by rw [HS.out.1, HS.out.2]; try rfl, nq, rfl⟩
end Go.Proofs.YtdmnaipngcldbaaDoor.rfW
