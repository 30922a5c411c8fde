/- The reference's Pad, Block; ShaBlocks. -/
import Derived.Test.YtmlfajmkgkgegaaShBC
import Derived.Test.YtmlfajmkgkgegaaShW8
import Derived.Test.YtmlfajmkgkgegaaSame8
import Derived.OpenShut
namespace Go.Proofs.Ytmlfajmkgkgegaa.shW
open Go.RowKit Go.Proofs.Ytmlfajmkgkgegaa.base Go.Proofs.Ytmlfajmkgkgegaa.shP
set_option linter.unusedVariables false
set_option linter.unusedSimpArgs false
theorem rdoneB (h : W5) (b : List Int) (A : Option Addr) (d : Nat) (w : World) (hA : Has .u8 w A b) (hl : b.length = 64) (hd : 64 ≤ d) (hb : ∀ z ∈ b, 0 ≤ z ∧ z ≤ 255) (hh : In5 h) :
    Calls Try.prog 12 #[.agg #[.int .u32 h.a, .int .u32 h.b, .int .u32 h.c, .int .u32 h.d, .int .u32 h.e], .slice A 64 d] w fun e w' => e = .returned (.agg #[.int .u32 (dn h b).a, .int .u32 (dn h b).b, .int .u32 (dn h b).c, .int .u32 (dn h b).d, .int .u32 (dn h b).e]) ∧ Below w.heap.size w w' := rDone h b A d w hA hl hd hb hh
set_option maxHeartbeats 1000000 in
theorem rPad (n : Int) (w : World) :
    Calls Try.prog 5 #[.int .i64 n] w fun e w' => ∃ A m c, e = .returned (.tuple #[.slice A m c, .int .i64 (padE n)]) ∧ m = (padV n).length ∧ OwnZ w' w.heap.size (.slice A m c) (padV n) ∧ Below w.heap.size w w' := by
  by_cases h : 0 ≤ n ∧ n ≤ 20000
  · have HV : Hid (padE n = 0 ∧ padV n = padL n.toNat) := Lib.hid ⟨by rw [padE, if_pos h], by rw [padV, if_pos h]⟩
    obtain ⟨h1, h2⟩ := h
    obtain ⟨k, rfl⟩ := Int.eq_ofNat_of_zero_le h1
    have HK : Hid (k ≤ 20000) := Lib.hid (by omega)
    go_enter Try.func5, Try.ntmps5
    go_wp2_with fail
    refine (rPadding k _ (by have := HK.out; omega)).mono ?_
    rintro e w1 ⟨A, c, rfl, own, hb⟩
    have HO := Lib.hid own
    clear own
    go_wp2_with fail
    go_ret2
    obtain ⟨e1, e2⟩ := HV.out
    rw [Int.toNat_natCast] at e2
    exact ⟨A, zerosN k + 9, c, by rw [e1]; rfl, by rw [e2, padL_len], by rw [e2]; exact .inl HO.out, hb⟩
  · have HV : Hid (padE n = 2 ∧ padV n = []) := Lib.hid ⟨by rw [padE, if_neg h], by rw [padV, if_neg h]⟩
    by_cases h1 : 0 ≤ n
    · have h2 : ¬ n ≤ 20000 := by omega
      clear h
      go_enter Try.func5, Try.ntmps5
      go_wp2_with fail
      go_ret2
      obtain ⟨e1, e2⟩ := HV.out
      exact ⟨none, 0, 0, by rw [e1]; rfl, by rw [e2]; rfl, by rw [e2]; exact .inr ⟨rfl, _, rfl⟩, by (repeat' (first | (with_reducible exact Below.refl _ _) | (with_reducible assumption) | (with_reducible refine below_drewN ?_ _) | (with_reducible refine below_new ?_ _) | (with_reducible refine Below.alloc ?_ ?_ _) | (with_reducible refine Below.drew ?_) | (with_reducible refine Below.setCell ?_ ?_ _) | (with_reducible apply below_at; (case k => (with_reducible assumption)); (case hB => omega)) | (with_reducible apply below_on; (with_reducible assumption)) | (go_size; done) | (with_reducible apply size_of)))⟩
    · clear h
      go_enter Try.func5, Try.ntmps5
      go_wp2_with fail
      go_ret2
      obtain ⟨e1, e2⟩ := HV.out
      exact ⟨none, 0, 0, by rw [e1]; rfl, by rw [e2]; rfl, by rw [e2]; exact .inr ⟨rfl, _, rfl⟩, by (repeat' (first | (with_reducible exact Below.refl _ _) | (with_reducible assumption) | (with_reducible refine below_drewN ?_ _) | (with_reducible refine below_new ?_ _) | (with_reducible refine Below.alloc ?_ ?_ _) | (with_reducible refine Below.drew ?_) | (with_reducible refine Below.setCell ?_ ?_ _) | (with_reducible apply below_at; (case k => (with_reducible assumption)); (case hB => omega)) | (with_reducible apply below_on; (with_reducible assumption)) | (go_size; done) | (with_reducible apply size_of)))⟩
set_option maxRecDepth 100000 in
set_option maxHeartbeats 1000000 in
theorem rBlock (h : W5) (b : List Int) (A : Option Addr) (n d : Nat) (w : World) (hA : Has .u8 w A b) (hl : b.length = n) (hd : n ≤ d) (hm : n ≤ 9223372036854775807) (hb : ∀ z ∈ b, 0 ≤ z ∧ z ≤ 255) (hh : In5 h) :
    Calls Try.prog 7 #[.agg #[.int .u32 h.a, .int .u32 h.b, .int .u32 h.c, .int .u32 h.d, .int .u32 h.e], .slice A n d] w fun e w' => e = .returned (.tuple #[.agg #[.int .u32 (blkV h b).a, .int .u32 (blkV h b).b, .int .u32 (blkV h b).c, .int .u32 (blkV h b).d, .int .u32 (blkV h b).e], .int .i64 (blkE b)]) ∧ Below w.heap.size w w' := by
  have n9 : (n : Int) ≤ 9223372036854775807 := by omega
  have HA := Lib.hid hA
  have HL := Lib.hid hl
  have HB := Lib.hid hb
  have HD := Lib.hid hd
  have HH := Lib.hid hh
  by_cases c : n = 64
  · subst c
    have HV : Hid (blkE b = 0 ∧ blkV h b = dn h b) := Lib.hid ⟨by rw [blkE, if_pos hl], by rw [blkV, if_pos hl]⟩
    clear hA hl hb hd hm hh
    go_enter Try.func7, Try.ntmps7
    go_wp2_with fail
    refine (rdoneB h b A d _ (HA.out.below (by (repeat' (first | (with_reducible exact Below.refl _ _) | (with_reducible assumption) | (with_reducible refine below_drewN ?_ _) | (with_reducible refine below_new ?_ _) | (with_reducible refine Below.alloc ?_ ?_ _) | (with_reducible refine Below.drew ?_) | (with_reducible refine Below.setCell ?_ ?_ _) | (with_reducible apply below_at; (case k => (with_reducible assumption)); (case hB => omega)) | (with_reducible apply below_on; (with_reducible assumption)) | (go_size; done) | (with_reducible apply size_of)))) (Nat.le_refl _)) HL.out HD.out HB.out HH.out).mono ?_
    rintro e w1 ⟨rfl, hb1⟩
    have Z : Lies (w1) (w.heap.size + 1) 23 (c5 (⟨0, 0, 0, 0, 0⟩)) := (Lies.fresh_at (cs := c5 ⟨0, 0, 0, 0, 0⟩) (by simp)).past hb1
    have HZ := Lib.hid Z
    obtain ⟨f0, f1, f2, f3, f4⟩ := free5 Z
    obtain ⟨z0, z1, z2, z3, z4⟩ := five (v := ⟨0, 0, 0, 0, 0⟩) Z
    have zz := Z.lt
    generalize hu : dn h b = u at *
    have HU := Lib.hid hu
    clear hu Z
    go_wp2_with fail
    obtain ⟨t0, t1, t2, t3, t4⟩ := five (lies_set5 HZ.out u)
    clear z0 z1 z2 z3 z4 f0 f1 f2 f3 f4
    refine bodyPost_ret (by simp [results, Try.results7, go_sem, t0, t1, t2, t3, t4]; try rfl) rfl ?_
    exact ⟨by rw [HV.out.1, HV.out.2], by (repeat' (first | (with_reducible exact Below.refl _ _) | (with_reducible assumption) | (with_reducible refine below_drewN ?_ _) | (with_reducible refine below_new ?_ _) | (with_reducible refine Below.alloc ?_ ?_ _) | (with_reducible refine Below.drew ?_) | (with_reducible refine Below.setCell ?_ ?_ _) | (with_reducible apply below_at; (case k => (with_reducible assumption)); (case hB => omega)) | (with_reducible apply below_on; (with_reducible assumption)) | (go_size; done) | (with_reducible apply size_of)))⟩
  · have HV : Hid (blkE b = 2 ∧ blkV h b = ⟨0, 0, 0, 0, 0⟩) := Lib.hid ⟨by rw [blkE, if_neg (by omega)], by rw [blkV, if_neg (by omega)]⟩
    have c1 : ((n : Int) == 64) = false := by simp; omega
    have c2 : ¬ (n : Int) = 64 := by omega
    clear hA hl hb hd hm hh
    go_enter Try.func7, Try.ntmps7
    go_wp2_with fail
    refine bodyPost_ret (by simp [results, Try.results7, go_sem, ]; try rfl) rfl ?_
    exact ⟨by rw [HV.out.1, HV.out.2], by (repeat' (first | (with_reducible exact Below.refl _ _) | (with_reducible assumption) | (with_reducible refine below_drewN ?_ _) | (with_reducible refine below_new ?_ _) | (with_reducible refine Below.alloc ?_ ?_ _) | (with_reducible refine Below.drew ?_) | (with_reducible refine Below.setCell ?_ ?_ _) | (with_reducible apply below_at; (case k => (with_reducible assumption)); (case hB => omega)) | (with_reducible apply below_on; (with_reducible assumption)) | (go_size; done) | (with_reducible apply size_of)))⟩
end Go.Proofs.Ytmlfajmkgkgegaa.shW
namespace Go.Proofs.Ytmlfajmkgkgegaa.base
open Go.ChangeShapes Go.WideShapes Go.ChangeAt Go.RowKit
open Go.Proofs.Ytmlfajmkgkgegaa.shP Go.Proofs.Ytmlfajmkgkgegaa.shW
theorem read_a5 {H : Type} {enc : TypeId × Value → H} {W : World} {bs : Nat} {v : Value} {d : DataW H} {p : List MemPlace}
    (hv : Value.okWide Try.prog W .any bs 23 v) (h : DataW.Trod enc Try.prog W 0 (fun _ => true) true 23 v d p) : ∃ c : W5, v = .agg #[.int .u32 c.a, .int .u32 c.b, .int .u32 c.c, .int .u32 c.d, .int .u32 c.e] ∧ In5 c := by
  simp only [Value.okWide, Try.underlying23] at hv
  obtain ⟨cs, rfl, hs, -⟩ := hv
  have hs : cs.size = 5 := by rw [hs]; kernel_rfl
  obtain ⟨fuel, hf⟩ := h
  obtain ⟨xs, m, -, -, -, hx, hall⟩ := DataW.trod_array Try.underlying23 hf
  have hc1 : Try.prog.cellsOf 22 = 1 := by kernel_rfl
  rw [hc1] at hall
  rcases cs with ⟨l⟩
  simp only [List.size_toArray] at hs
  match l, hs with
  | [c0, c1, c2, c3, c4], _ =>
    have go : ∀ (i : Nat) (hi : i < 5) (c : Value), (List.take 1 (List.drop (i * 1) [c0, c1, c2, c3, c4])) = [c] → ∃ a : Int, c = .int .u32 a ∧ 0 ≤ a ∧ a ≤ 4294967295 := by
      intro i hi c hc
      have h1 := hall i hi
      have h2 : (Value.agg { toList := [c0, c1, c2, c3, c4] }).cells.toList = [c0, c1, c2, c3, c4] := rfl
      rw [h2, hc, List.getElem?_eq_getElem (by omega)] at h1
      obtain ⟨a, e0, -, wa⟩ := DataW.trod_int Try.underlying22 h1
      simp at e0
      have x := bounds_u32 wa
      exact ⟨a, e0, x.1, x.2⟩
    obtain ⟨a0, rfl, k0⟩ := go 0 (by omega) c0 rfl
    obtain ⟨a1, rfl, k1⟩ := go 1 (by omega) c1 rfl
    obtain ⟨a2, rfl, k2⟩ := go 2 (by omega) c2 rfl
    obtain ⟨a3, rfl, k3⟩ := go 3 (by omega) c3 rfl
    obtain ⟨a4, rfl, k4⟩ := go 4 (by omega) c4 rfl
    exact ⟨⟨a0, a1, a2, a3, a4⟩, rfl, k0, k1, k2, k3, k4⟩
end Go.Proofs.Ytmlfajmkgkgegaa.base
