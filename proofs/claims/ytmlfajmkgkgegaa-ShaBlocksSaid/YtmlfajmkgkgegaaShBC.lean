/- Pad, Block, by walks. -/
import Derived.Test.YtmlfajmkgkgegaaShW7
namespace Go.Proofs.Ytmlfajmkgkgegaa.shW
open Go.RowKit Go.Proofs.Ytmlfajmkgkgegaa.base Go.Proofs.Ytmlfajmkgkgegaa.shP
set_option linter.unusedVariables false
set_option linter.unusedSimpArgs false
def padE (n : Int) : Int := if 0 ≤ n ∧ n ≤ 20000 then 0 else 2
def padV (n : Int) : List Int := if 0 ≤ n ∧ n ≤ 20000 then padL n.toNat else []
set_option maxHeartbeats 1000000 in
theorem Pad_any (n : Int) (w : World) :
    Calls Try.prog 4 #[.int .i64 n] w fun e w' => ∃ A m c, e = .returned (.tuple #[.slice A m c, .int .i64 (padE n)]) ∧ m = (padV n).length ∧ OwnZ w' w.heap.size (.slice A m c) (padV n) ∧ Below w.heap.size w w' := by
  by_cases h : 0 ≤ n ∧ n ≤ 20000
  · have HV : Hid (padE n = 0 ∧ padV n = padL n.toNat) := Lib.hid ⟨by rw [padE, if_pos h], by rw [padV, if_pos h]⟩
    obtain ⟨h1, h2⟩ := h
    obtain ⟨k, rfl⟩ := Int.eq_ofNat_of_zero_le h1
    have HK : Hid (k ≤ 20000) := Lib.hid (by omega)
    go_enter Try.func4, Try.ntmps4
    go_wp2_with fail
    refine (padding k _ HK.out).mono ?_
    rintro e w1 ⟨A, c, rfl, own, hb⟩
    have HO := Lib.hid own
    clear own
    go_wp2_with fail
    go_ret2
    obtain ⟨e1, e2⟩ := HV.out
    rw [Int.toNat_natCast] at e2
    exact ⟨A, zerosN k + 9, c, by rw [e1]; rfl, by rw [e2, padL_len], by rw [e2]; exact .inl HO.out, hb⟩
  · have HV : Hid (padE n = 2 ∧ padV n = []) := Lib.hid ⟨by rw [padE, if_neg h], by rw [padV, if_neg h]⟩
    by_cases h1 : 0 ≤ n
    · have h2 : ¬ n ≤ 20000 := by omega
      clear h
      go_enter Try.func4, Try.ntmps4
      go_wp2_with fail
      go_ret2
      obtain ⟨e1, e2⟩ := HV.out
      exact ⟨none, 0, 0, by rw [e1]; rfl, by rw [e2]; rfl, by rw [e2]; exact .inr ⟨rfl, _, rfl⟩, by (repeat' (first | (with_reducible exact Below.refl _ _) | (with_reducible assumption) | (with_reducible refine below_drewN ?_ _) | (with_reducible refine below_new ?_ _) | (with_reducible refine Below.alloc ?_ ?_ _) | (with_reducible refine Below.drew ?_) | (with_reducible refine Below.setCell ?_ ?_ _) | (with_reducible apply below_at; (case k => (with_reducible assumption)); (case hB => omega)) | (with_reducible apply below_on; (with_reducible assumption)) | (go_size; done) | (with_reducible apply size_of)))⟩
    · clear h
      go_enter Try.func4, Try.ntmps4
      go_wp2_with fail
      go_ret2
      obtain ⟨e1, e2⟩ := HV.out
      exact ⟨none, 0, 0, by rw [e1]; rfl, by rw [e2]; rfl, by rw [e2]; exact .inr ⟨rfl, _, rfl⟩, by (repeat' (first | (with_reducible exact Below.refl _ _) | (with_reducible assumption) | (with_reducible refine below_drewN ?_ _) | (with_reducible refine below_new ?_ _) | (with_reducible refine Below.alloc ?_ ?_ _) | (with_reducible refine Below.drew ?_) | (with_reducible refine Below.setCell ?_ ?_ _) | (with_reducible apply below_at; (case k => (with_reducible assumption)); (case hB => omega)) | (with_reducible apply below_on; (with_reducible assumption)) | (go_size; done) | (with_reducible apply size_of)))⟩
def blkE (b : List Int) : Int := if b.length = 64 then 0 else 2
def blkV (h : W5) (b : List Int) : W5 := if b.length = 64 then dn h b else ⟨0, 0, 0, 0, 0⟩
set_option maxRecDepth 100000 in
set_option maxHeartbeats 1000000 in
theorem Block_any (h : W5) (b : List Int) (A : Option Addr) (n d : Nat) (w : World) (hA : Has .u8 w A b) (hl : b.length = n) (hd : n ≤ d) (hm : n ≤ 9223372036854775807) (hb : ∀ z ∈ b, 0 ≤ z ∧ z ≤ 255) (hh : In5 h) :
    Calls Try.prog 6 #[.agg #[.int .u32 h.a, .int .u32 h.b, .int .u32 h.c, .int .u32 h.d, .int .u32 h.e], .slice A n d] w fun e w' => e = .returned (.tuple #[.agg #[.int .u32 (blkV h b).a, .int .u32 (blkV h b).b, .int .u32 (blkV h b).c, .int .u32 (blkV h b).d, .int .u32 (blkV h b).e], .int .i64 (blkE b)]) ∧ Below w.heap.size w w' := by
  have n9 : (n : Int) ≤ 9223372036854775807 := by omega
  have HA := Lib.hid hA
  have HL := Lib.hid hl
  have HB := Lib.hid hb
  have HD := Lib.hid hd
  have HH := Lib.hid hh
  by_cases c : n = 64
  · subst c
    have HV : Hid (blkE b = 0 ∧ blkV h b = dn h b) := Lib.hid ⟨by rw [blkE, if_pos hl], by rw [blkV, if_pos hl]⟩
    clear hA hl hb hd hm hh
    go_enter Try.func6, Try.ntmps6
    go_wp2_with fail
    refine (doBlock' h b A d _ (HA.out.below (by (repeat' (first | (with_reducible exact Below.refl _ _) | (with_reducible assumption) | (with_reducible refine below_drewN ?_ _) | (with_reducible refine below_new ?_ _) | (with_reducible refine Below.alloc ?_ ?_ _) | (with_reducible refine Below.drew ?_) | (with_reducible refine Below.setCell ?_ ?_ _) | (with_reducible apply below_at; (case k => (with_reducible assumption)); (case hB => omega)) | (with_reducible apply below_on; (with_reducible assumption)) | (go_size; done) | (with_reducible apply size_of)))) (Nat.le_refl _)) HL.out HD.out HB.out HH.out).mono ?_
    rintro e w1 ⟨rfl, hb1⟩
    have Z : Lies (w1) (w.heap.size + 1) 23 (c5 (⟨0, 0, 0, 0, 0⟩)) := (Lies.fresh_at (cs := c5 ⟨0, 0, 0, 0, 0⟩) (by simp)).past hb1
    have HZ := Lib.hid Z
    obtain ⟨f0, f1, f2, f3, f4⟩ := free5 Z
    obtain ⟨z0, z1, z2, z3, z4⟩ := five (v := ⟨0, 0, 0, 0, 0⟩) Z
    have zz := Z.lt
    generalize hu : dn h b = u at *
    have HU := Lib.hid hu
    clear hu Z
    go_wp2_with fail
    obtain ⟨t0, t1, t2, t3, t4⟩ := five (lies_set5 HZ.out u)
    clear z0 z1 z2 z3 z4 f0 f1 f2 f3 f4
    refine bodyPost_ret (by simp [results, Try.results6, go_sem, t0, t1, t2, t3, t4]; try rfl) rfl ?_
    exact ⟨by rw [HV.out.1, HV.out.2], by (repeat' (first | (with_reducible exact Below.refl _ _) | (with_reducible assumption) | (with_reducible refine below_drewN ?_ _) | (with_reducible refine below_new ?_ _) | (with_reducible refine Below.alloc ?_ ?_ _) | (with_reducible refine Below.drew ?_) | (with_reducible refine Below.setCell ?_ ?_ _) | (with_reducible apply below_at; (case k => (with_reducible assumption)); (case hB => omega)) | (with_reducible apply below_on; (with_reducible assumption)) | (go_size; done) | (with_reducible apply size_of)))⟩
  · have HV : Hid (blkE b = 2 ∧ blkV h b = ⟨0, 0, 0, 0, 0⟩) := Lib.hid ⟨by rw [blkE, if_neg (by omega)], by rw [blkV, if_neg (by omega)]⟩
    have c1 : ((n : Int) == 64) = false := by simp; omega
    have c2 : ¬ (n : Int) = 64 := by omega
    clear hA hl hb hd hm hh
    go_enter Try.func6, Try.ntmps6
    go_wp2_with fail
    refine bodyPost_ret (by simp [results, Try.results6, go_sem, ]; try rfl) rfl ?_
    exact ⟨by rw [HV.out.1, HV.out.2], by (repeat' (first | (with_reducible exact Below.refl _ _) | (with_reducible assumption) | (with_reducible refine below_drewN ?_ _) | (with_reducible refine below_new ?_ _) | (with_reducible refine Below.alloc ?_ ?_ _) | (with_reducible refine Below.drew ?_) | (with_reducible refine Below.setCell ?_ ?_ _) | (with_reducible apply below_at; (case k => (with_reducible assumption)); (case hB => omega)) | (with_reducible apply below_on; (with_reducible assumption)) | (go_size; done) | (with_reducible apply size_of)))⟩
end Go.Proofs.Ytmlfajmkgkgegaa.shW
