/- Places and nodes; Get of both, by walks. -/
import Derived.Test.YtkklmclnjmafaaaSlW3
namespace Go.Proofs.Ytkklmclnjmafaaa.slP
set_option maxRecDepth 100000
def posB (n : Nat) (p k : Int) : Prop := 0 ≤ p ∧ p < n ∧ 1 ≤ k ∧ k ≤ 15
instance (n : Nat) (p k : Int) : Decidable (posB n p k) := by unfold posB; exact inferInstance
def atE (lv : Int) (n : Nat) (fl : List Int) (p k : Int) : Int := if okB lv n fl = true then (if posB n p k then 0 else 2) else 8
def gtV (lv : Int) (n : Nat) (fl : List Int) (p k : Int) : Int := if atE lv n fl p k = 0 then stA fl p.toNat (k.toNat - 1) else 0
theorem at_ok {lv : Int} {n : Nat} {fl : List Int} {p k : Int} (h : okB lv n fl = true) (hp : posB n p k) : atE lv n fl p k = 0 := by unfold atE; rw [if_pos h, if_pos hp]
theorem at_arg {lv : Int} {n : Nat} {fl : List Int} {p k : Int} (h : okB lv n fl = true) (hp : ¬ posB n p k) : atE lv n fl p k = 2 := by unfold atE; rw [if_pos h, if_neg hp]
theorem at_bad {lv : Int} {n : Nat} {fl : List Int} {p k : Int} (h : ¬ okB lv n fl = true) : atE lv n fl p k = 8 := by unfold atE; rw [if_neg h]
theorem at_zero {lv : Int} {n : Nat} {fl : List Int} {p k : Int} (h : atE lv n fl p k = 0) : okB lv n fl = true ∧ posB n p k := by
  unfold atE at h
  split at h
  · rename_i h1
    split at h
    · rename_i h2; exact ⟨h1, h2⟩
    · cases h
  · cases h
end Go.Proofs.Ytkklmclnjmafaaa.slP
namespace Go.Proofs.Ytkklmclnjmafaaa.slW
set_option maxRecDepth 100000
open Go.RowKit Go.Proofs.Ytkklmclnjmafaaa.base Go.Proofs.Ytkklmclnjmafaaa.slP
set_option linter.unusedVariables false
set_option linter.unusedSimpArgs false
set_option maxHeartbeats 800000 in
theorem checkAt_any (lv : Int) (A : Option Addr) (n c : Nat) (fl : List Int) (p k : Int) (w : World) (l1 : -9223372036854775808 ≤ lv) (l2 : lv ≤ 9223372036854775807) (hi : InS w A n c fl) :
    Calls Try.prog 37 #[.agg #[.int .i64 lv, .slice A n c], .int .i64 p, .int .i64 k] w fun e w' => e = .returned (.int .i64 (atE lv n fl p k)) ∧ Below w.heap.size w w' := by
  have n9 : (n : Int) ≤ 9223372036854775807 := by have := hi.c1; have := hi.c2; omega
  have HI := Lib.hid hi
  have t0 := (tb_new w lv A n c).c0
  have t1 := (tb_new w lv A n c).c1
  have T0 := Lib.hid (tb_new w lv A n c)
  have B0 := Lib.hid (tb_box w lv A n c)
  clear hi
  go_enter Try.func37, Try.ntmps37
  go_upto_region 1 with fail
  generalize (w.alloc (.cells #[.int .i64 lv, .slice A n c] 24)) = w0 at *
  go_wp2_with fail
  refine (Check_any lv A n c fl w0 l1 l2 (HI.out.past B0.out)).mono ?_
  rintro e w1 ⟨rfl, b1⟩
  have B1 := Lib.hid (below_bs B0.out b1)
  have x1 := (T0.out.past b1).c1
  clear t0 t1 T0 B0 b1 HI
  by_cases hok : okB lv n fl = true
  · rw [okE_ok hok]
    have HY : Hid (posB n p k → atE lv n fl p k = 0) := Lib.hid (at_ok hok)
    have HX : Hid (¬ posB n p k → atE lv n fl p k = 2) := Lib.hid (at_arg hok)
    unfold posB at HY HX
    clear hok
    by_cases c1 : p < 0
    · have HE := Lib.hid (HX.out (by omega))
      go_wp2_with fail
      go_ret
      exact ⟨by rw [HE.out]; rfl, B1.out⟩
    by_cases c2 : (n : Int) ≤ p
    · have HE := Lib.hid (HX.out (by omega))
      go_wp2_with fail
      go_ret
      exact ⟨by rw [HE.out]; rfl, B1.out⟩
    by_cases c3 : k < 1
    · have HE := Lib.hid (HX.out (by omega))
      go_wp2_with fail
      go_ret
      exact ⟨by rw [HE.out]; rfl, B1.out⟩
    by_cases c4 : 15 < k
    · have HE := Lib.hid (HX.out (by omega))
      go_wp2_with fail
      go_ret
      exact ⟨by rw [HE.out]; rfl, B1.out⟩
    have HE := Lib.hid (HY.out (by omega))
    go_wp2_with fail
    go_ret
    exact ⟨by rw [HE.out]; rfl, B1.out⟩
  · rw [okE_bad hok]
    have HE := Lib.hid (at_bad (p := p) (k := k) hok)
    clear hok
    go_wp2_with fail
    go_ret
    exact ⟨by rw [HE.out]; rfl, B1.out⟩
set_option maxHeartbeats 800000 in
theorem rAt (lv : Int) (A : Option Addr) (n c : Nat) (fl : List Int) (p k : Int) (w : World) (l1 : -9223372036854775808 ≤ lv) (l2 : lv ≤ 9223372036854775807) (hi : InS w A n c fl) :
    Calls Try.prog 30 #[.agg #[.int .i64 lv, .slice A n c], .int .i64 p, .int .i64 k] w fun e w' => e = .returned (.int .i64 (atE lv n fl p k)) ∧ Below w.heap.size w w' := by
  have n9 : (n : Int) ≤ 9223372036854775807 := by have := hi.c1; have := hi.c2; omega
  have HI := Lib.hid hi
  have t0 := (tb_new w lv A n c).c0
  have t1 := (tb_new w lv A n c).c1
  have T0 := Lib.hid (tb_new w lv A n c)
  have B0 := Lib.hid (tb_box w lv A n c)
  clear hi
  go_enter Try.func30, Try.ntmps30
  go_upto_region 1 with fail
  generalize (w.alloc (.cells #[.int .i64 lv, .slice A n c] 24)) = w0 at *
  go_wp2_with fail
  refine (rCheck lv A n c fl w0 l1 l2 (HI.out.past B0.out)).mono ?_
  rintro e w1 ⟨rfl, b1⟩
  have B1 := Lib.hid (below_bs B0.out b1)
  have x1 := (T0.out.past b1).c1
  clear t0 t1 T0 B0 b1 HI
  by_cases hok : okB lv n fl = true
  · rw [okE_ok hok]
    have HY : Hid (posB n p k → atE lv n fl p k = 0) := Lib.hid (at_ok hok)
    have HX : Hid (¬ posB n p k → atE lv n fl p k = 2) := Lib.hid (at_arg hok)
    unfold posB at HY HX
    clear hok
    by_cases c1 : p < 0
    · have HE := Lib.hid (HX.out (by omega))
      go_wp2_with fail
      go_ret
      exact ⟨by rw [HE.out]; rfl, B1.out⟩
    by_cases c2 : (n : Int) ≤ p
    · have HE := Lib.hid (HX.out (by omega))
      go_wp2_with fail
      go_ret
      exact ⟨by rw [HE.out]; rfl, B1.out⟩
    by_cases c3 : k < 1
    · have HE := Lib.hid (HX.out (by omega))
      go_wp2_with fail
      go_ret
      exact ⟨by rw [HE.out]; rfl, B1.out⟩
    by_cases c4 : 15 < k
    · have HE := Lib.hid (HX.out (by omega))
      go_wp2_with fail
      go_ret
      exact ⟨by rw [HE.out]; rfl, B1.out⟩
    have HE := Lib.hid (HY.out (by omega))
    go_wp2_with fail
    go_ret
    exact ⟨by rw [HE.out]; rfl, B1.out⟩
  · rw [okE_bad hok]
    have HE := Lib.hid (at_bad (p := p) (k := k) hok)
    clear hok
    go_wp2_with fail
    go_ret
    exact ⟨by rw [HE.out]; rfl, B1.out⟩
set_option maxHeartbeats 800000 in
theorem Get_any (lv : Int) (A : Option Addr) (n c : Nat) (fl : List Int) (p k : Int) (w : World) (l1 : -9223372036854775808 ≤ lv) (l2 : lv ≤ 9223372036854775807) (hi : InS w A n c fl) :
    Calls Try.prog 12 #[.agg #[.int .i64 lv, .slice A n c], .int .i64 p, .int .i64 k] w fun e w' => e = .returned (.tuple #[.int .u8 (gtV lv n fl p k), .int .i64 (atE lv n fl p k)]) ∧ Below w.heap.size w w' := by
  have n9 : (n : Int) ≤ 9223372036854775807 := by have := hi.c1; have := hi.c2; omega
  have HI := Lib.hid hi
  have t0 := (tb_new w lv A n c).c0
  have t1 := (tb_new w lv A n c).c1
  have T0 := Lib.hid (tb_new w lv A n c)
  have B0 := Lib.hid (tb_box w lv A n c)
  clear hi
  go_enter Try.func12, Try.ntmps12
  go_upto_region 1 with fail
  generalize (w.alloc (.cells #[.int .i64 lv, .slice A n c] 24)) = w0 at *
  go_wp2_with fail
  refine (checkAt_any lv A n c fl p k w0 l1 l2 (HI.out.past B0.out)).mono ?_
  rintro e w1 ⟨rfl, b1⟩
  have B1 := Lib.hid (below_bs B0.out b1)
  have x1 := (T0.out.past b1).c1
  have HI1 := Lib.hid ((HI.out.past B0.out).past b1)
  clear t0 t1 T0 B0 b1 HI
  by_cases hz : atE lv n fl p k = 0
  · have HP := Lib.hid (at_zero hz)
    have HV : Hid (gtV lv n fl p k = stA fl p.toNat (k.toNat - 1)) := Lib.hid (if_pos hz)
    rw [hz]
    have HZ := Lib.hid hz
    have hp := HP.out.2
    unfold posB at hp
    obtain ⟨pn, rfl⟩ := Int.eq_ofNat_of_zero_le hp.1
    obtain ⟨kn, hk⟩ : ∃ kn : Nat, k = (kn : Int) + 1 := ⟨(k - 1).toNat, by omega⟩
    subst hk
    have p1 : (pn : Int) < n := by omega
    have k1 : (kn : Int) < 15 := by omega
    have j1 : IntKind.i64.wrap ((kn : Int) + 1 - 1) = (kn : Int) := by
      rw [show (kn : Int) + 1 - 1 = (kn : Int) by omega]; exact IntWalk.i64_in _ (by omega)
    have j2 : IntKind.i64.wrap (kn : Int) = (kn : Int) := IntWalk.i64_in _ (by omega)
    obtain ⟨b, off, rfl, hb, hc⟩ := HI1.out.at_ (by omega)
    have hcl := hc (16 * pn + 1 + kn) (by omega)
    rw [show off + (16 * pn + 1 + kn) = off + pn * 16 + 1 + kn by omega, show fl.getD (16 * pn + 1 + kn) 0 = stA fl pn kn from rfl] at hcl
    have HV2 : Hid (gtV lv n fl (pn : Int) ((kn : Int) + 1) = stA fl pn kn) := Lib.hid (by rw [HV.out]; congr 1)
    clear hz hp hc HV
    generalize stA fl pn kn = y at *
    go_wp2_with fail
    go_ret2
    exact ⟨by rw [HV2.out, HZ.out]; rfl, B1.out⟩
  · have HV : Hid (gtV lv n fl p k = 0) := Lib.hid (if_neg hz)
    obtain ⟨e, he⟩ : ∃ e, atE lv n fl p k = e := ⟨_, rfl⟩
    rw [he] at hz ⊢
    have HE := Lib.hid he
    have hz' : (e == 0) = false := by simpa using hz
    clear he hz
    go_wp2_with fail
    go_ret2
    exact ⟨by rw [HV.out, HE.out]; rfl, B1.out⟩
set_option maxHeartbeats 800000 in
theorem rGet (lv : Int) (A : Option Addr) (n c : Nat) (fl : List Int) (p k : Int) (w : World) (l1 : -9223372036854775808 ≤ lv) (l2 : lv ≤ 9223372036854775807) (hi : InS w A n c fl) :
    Calls Try.prog 22 #[.agg #[.int .i64 lv, .slice A n c], .int .i64 p, .int .i64 k] w fun e w' => e = .returned (.tuple #[.int .u8 (gtV lv n fl p k), .int .i64 (atE lv n fl p k)]) ∧ Below w.heap.size w w' := by
  have n9 : (n : Int) ≤ 9223372036854775807 := by have := hi.c1; have := hi.c2; omega
  have HI := Lib.hid hi
  have t0 := (tb_new w lv A n c).c0
  have t1 := (tb_new w lv A n c).c1
  have T0 := Lib.hid (tb_new w lv A n c)
  have B0 := Lib.hid (tb_box w lv A n c)
  clear hi
  go_enter Try.func22, Try.ntmps22
  go_upto_region 1 with fail
  generalize (w.alloc (.cells #[.int .i64 lv, .slice A n c] 24)) = w0 at *
  go_wp2_with fail
  refine (rAt lv A n c fl p k w0 l1 l2 (HI.out.past B0.out)).mono ?_
  rintro e w1 ⟨rfl, b1⟩
  have B1 := Lib.hid (below_bs B0.out b1)
  have x1 := (T0.out.past b1).c1
  have HI1 := Lib.hid ((HI.out.past B0.out).past b1)
  clear t0 t1 T0 B0 b1 HI
  by_cases hz : atE lv n fl p k = 0
  · have HP := Lib.hid (at_zero hz)
    have HV : Hid (gtV lv n fl p k = stA fl p.toNat (k.toNat - 1)) := Lib.hid (if_pos hz)
    rw [hz]
    have HZ := Lib.hid hz
    have hp := HP.out.2
    unfold posB at hp
    obtain ⟨pn, rfl⟩ := Int.eq_ofNat_of_zero_le hp.1
    obtain ⟨kn, hk⟩ : ∃ kn : Nat, k = (kn : Int) + 1 := ⟨(k - 1).toNat, by omega⟩
    subst hk
    have p1 : (pn : Int) < n := by omega
    have k1 : (kn : Int) < 15 := by omega
    have j1 : IntKind.i64.wrap ((kn : Int) + 1 - 1) = (kn : Int) := by
      rw [show (kn : Int) + 1 - 1 = (kn : Int) by omega]; exact IntWalk.i64_in _ (by omega)
    have j2 : IntKind.i64.wrap (kn : Int) = (kn : Int) := IntWalk.i64_in _ (by omega)
    obtain ⟨b, off, rfl, hb, hc⟩ := HI1.out.at_ (by omega)
    have hcl := hc (16 * pn + 1 + kn) (by omega)
    rw [show off + (16 * pn + 1 + kn) = off + pn * 16 + 1 + kn by omega, show fl.getD (16 * pn + 1 + kn) 0 = stA fl pn kn from rfl] at hcl
    have HV2 : Hid (gtV lv n fl (pn : Int) ((kn : Int) + 1) = stA fl pn kn) := Lib.hid (by rw [HV.out]; congr 1)
    clear hz hp hc HV
    generalize stA fl pn kn = y at *
    go_wp2_with fail
    go_ret2
    exact ⟨by rw [HV2.out, HZ.out]; rfl, B1.out⟩
  · have HV : Hid (gtV lv n fl p k = 0) := Lib.hid (if_neg hz)
    obtain ⟨e, he⟩ : ∃ e, atE lv n fl p k = e := ⟨_, rfl⟩
    rw [he] at hz ⊢
    have HE := Lib.hid he
    have hz' : (e == 0) = false := by simpa using hz
    clear he hz
    go_wp2_with fail
    go_ret2
    exact ⟨by rw [HV.out, HE.out]; rfl, B1.out⟩
end Go.Proofs.Ytkklmclnjmafaaa.slW
