/- Markers: Stands of the reference, by a walk. -/
import Derived.Test.YthcpanenjcjgpaaMkW
namespace Go.Proofs.Ythcpanenjcjgpaa.mkW
open Go.RowKit Go.Proofs.Ythcpanenjcjgpaa.base Go.Proofs.Ythcpanenjcjgpaa.mkP
set_option linter.unusedVariables false
set_option linter.unusedSimpArgs false
theorem occ_no {b : List Int} {i k : Nat} (hk : k < 13) (h : b.getD (i + k) 0 ≠ mk.getD k 0) : occ b i = false := by
  cases ho : occ b i with
  | false => rfl
  | true => exact absurd (occ_at ho hk) h
def occI (b : List Int) (i : Int) : Bool := decide (0 ≤ i) && occ b i.toNat
set_option maxHeartbeats 1000000 in
theorem rStands (b : List Int) (A : Option Addr) (n c : Nat) (i : Int) (w : World) (h : InR w ⟨A, n, c, b⟩) (l1 : -9223372036854775808 ≤ i) (l2 : i ≤ 9223372036854775807) :
    Calls Try.prog 26 #[.slice A n c, .int .i64 i] w fun e w' => e = .returned (.bool (occI b i)) ∧ Below w.heap.size w w' := by
  have e : b.length = n := h.e
  have n9 : (n : Int) ≤ 9223372036854775807 := by have h1 : n ≤ c := h.c1; have h2 : c ≤ 9223372036854775807 := h.c2; omega
  by_cases c2 : 0 ≤ i
  · obtain ⟨q, rfl⟩ := Int.eq_ofNat_of_zero_le c2
    by_cases c3 : (q : Int) ≤ n
    · by_cases c4 : (n : Int) - q < 13
      · have HV : Hid (occI b q = false) := Lib.hid (by rw [occI, Int.toNat_natCast, occ_end (by omega), Bool.and_false])
        (clear h e; go_enter Try.func26, Try.ntmps26; go_wp2_with (go_at_call 23; refine (rBytes _).mono ?_; rintro e w1 ⟨rfl, -, hb1⟩); go_ret; exact ⟨retb HV.out.symm, by (repeat' (first | (with_reducible exact Below.refl _ _) | (with_reducible assumption) | (with_reducible refine below_drewN ?_ _) | (with_reducible refine below_new ?_ _) | (with_reducible refine Below.alloc ?_ ?_ _) | (with_reducible refine Below.drew ?_) | (with_reducible refine Below.setCell ?_ ?_ _) | (with_reducible apply below_at; (case k => (with_reducible assumption)); (case hB => omega)) | (with_reducible apply below_on; (with_reducible assumption)) | (go_size; done) | (with_reducible apply size_of)))⟩)
      · have HV : Hid (occI b q = occ b q) := Lib.hid (by rw [occI, Int.toNat_natCast, decide_eq_true (by omega), Bool.true_and])
        obtain ⟨bb, off, hA, hb, hc⟩ := has_some h.h (by show 0 < b.length; omega)
        obtain rfl : A = some ⟨bb, off, none⟩ := hA
        have HC := Lib.hid hc
        have HE := Lib.hid e
        have HB := Lib.hid hb
        have q13 : (q : Int) + 13 ≤ n := by omega
        have d1 : decide ((q : Int) < 0) = false := decide_eq_false (by omega)
        have d2 : decide (n < q) = false := decide_eq_false (by omega)
        have d3 : decide ((n : Int) - q < 13) = false := decide_eq_false (by omega)
        clear h e hc c4 hb
        go_enter Try.func26, Try.ntmps26
        go_wp2_with fail
        refine (rBytes _).mono ?_
        rintro e w1 ⟨rfl, ho1, hb1⟩
        have HO1 := Lib.hid ho1
        have HB1 := Lib.hid hb1
        have lt1 := Lib.hid ho1.base_le.2
        clear ho1 hb1
        go_wp2_with fail
        clear d1 d2 d3
        go_loopw [6] (fun j wr => ∃ k : Nat, k ≤ 13 ∧ j = .int .i64 k ∧ (∀ t, t < k → b.getD (q + t) 0 = mk.getD t 0) ∧ Below w1.heap.size w1 wr) (fun j _ => 13 - (intOf j).toNat)
        case atStart => exact ⟨0, by omega, rfl, fun t ht => by omega, by (repeat' (first | (with_reducible exact Below.refl _ _) | (with_reducible assumption) | (with_reducible refine below_drewN ?_ _) | (with_reducible refine below_new ?_ _) | (with_reducible refine Below.alloc ?_ ?_ _) | (with_reducible refine Below.drew ?_) | (with_reducible refine Below.setCell ?_ ?_ _) | (with_reducible apply below_at; (case k => (with_reducible assumption)); (case hB => omega)) | (with_reducible apply below_on; (with_reducible assumption)) | (go_size; done) | (with_reducible apply size_of)))⟩
        case round =>
          obtain ⟨k, hk, rfl, hall, acc⟩ := hrel
          have HALL := Lib.hid hall
          have HACC := Lib.hid acc
          by_cases hlt : k < 13
          · have p1 := HC.out (q + k) (by rw [HE.out]; omega)
            have p2 := HO1.out.cell k hlt
            rw [← HB1.out.cell (p := ⟨bb, off + (q + k), none⟩) HB.out, ← acc.cell (p := ⟨bb, off + (q + k), none⟩) (Nat.lt_of_lt_of_le HB.out HB1.out.size)] at p1
            rw [← acc.cell (p := ⟨w.heap.size, k, none⟩) lt1.out] at p2
            have HLT := Lib.hid hlt
            have HN := Lib.hid (occ_no (b := b) (i := q) hlt)
            have k1 : (k : Int) < 13 := by omega
            have k2 : (q : Int) + k < n := by omega
            generalize hx : b.getD (q + k) 0 = x at *
            generalize hy : mk.getD k 0 = y at *
            have HX := Lib.hid hx
            have HY := Lib.hid hy
            clear hall acc hlt hk hy hx
            have t0 : 0 ≤ (q : Int) + k := by omega
            have t3 : (q : Int) + k ≤ 9223372036854775807 := by omega
            have t1 : ((q : Int) + k).toNat = q + k := by omega
            have t2 : IntKind.i64.wrap ((q : Int) + k) = (q : Int) + k := IntWalk.i64_in _ (by omega)
            by_cases hxy : x = y
            · subst hxy
              go_wp2
              go_quiet (fail)
              clear t1 t2
              go_wp2
              go_roundw
              case rel =>
                refine ⟨k + 1, HLT.out, by go_num, fun t ht => ?_, by have := HACC.out; (repeat' (first | (with_reducible exact Below.refl _ _) | (with_reducible assumption) | (with_reducible refine below_drewN ?_ _) | (with_reducible refine below_new ?_ _) | (with_reducible refine Below.alloc ?_ ?_ _) | (with_reducible refine Below.drew ?_) | (with_reducible refine Below.setCell ?_ ?_ _) | (with_reducible apply below_at; (case k => (with_reducible assumption)); (case hB => omega)) | (with_reducible apply below_on; (with_reducible assumption)) | (go_size; done) | (with_reducible apply size_of)))⟩
                by_cases et : t = k
                · subst et; exact HX.out.trans HY.out.symm
                · exact HALL.out t (by omega)
              case measure => simp [intOf]; have := HLT.out; omega
            · have hne : (x == y) = false := by simpa using hxy
              have hne2 : (x != y) = true := by simpa using hxy
              go_wp2
              go_quiet (fail)
              clear t1 t2
              go_wp2
              go_ret
              exact ⟨retb (by rw [HV.out, HN.out hxy]), by have := HACC.out; have := HB1.out; (repeat' (first | (with_reducible exact Below.refl _ _) | (with_reducible assumption) | (with_reducible refine below_drewN ?_ _) | (with_reducible refine below_new ?_ _) | (with_reducible refine Below.alloc ?_ ?_ _) | (with_reducible refine Below.drew ?_) | (with_reducible refine Below.setCell ?_ ?_ _) | (with_reducible apply below_at; (case k => (with_reducible assumption)); (case hB => omega)) | (with_reducible apply below_on; (with_reducible assumption)) | (go_size; done) | (with_reducible apply size_of)))⟩
          · have hk13 : k = 13 := by omega
            have HR : Hid (occ b q = true) := Lib.hid (occ_of_all (by rw [HE.out]; omega) fun t ht => hall t (by omega))
            subst hk13
            clear hall acc hlt hk
            go_wp2
            go_ret
            exact ⟨retb (by rw [HV.out, HR.out]), by have := HACC.out; have := HB1.out; (repeat' (first | (with_reducible exact Below.refl _ _) | (with_reducible assumption) | (with_reducible refine below_drewN ?_ _) | (with_reducible refine below_new ?_ _) | (with_reducible refine Below.alloc ?_ ?_ _) | (with_reducible refine Below.drew ?_) | (with_reducible refine Below.setCell ?_ ?_ _) | (with_reducible apply below_at; (case k => (with_reducible assumption)); (case hB => omega)) | (with_reducible apply below_on; (with_reducible assumption)) | (go_size; done) | (with_reducible apply size_of)))⟩
    · have HV : Hid (occI b q = false) := Lib.hid (by rw [occI, Int.toNat_natCast, occ_end (by omega), Bool.and_false])
      (clear h e; go_enter Try.func26, Try.ntmps26; go_wp2_with (go_at_call 23; refine (rBytes _).mono ?_; rintro e w1 ⟨rfl, -, hb1⟩); go_ret; exact ⟨retb HV.out.symm, by (repeat' (first | (with_reducible exact Below.refl _ _) | (with_reducible assumption) | (with_reducible refine below_drewN ?_ _) | (with_reducible refine below_new ?_ _) | (with_reducible refine Below.alloc ?_ ?_ _) | (with_reducible refine Below.drew ?_) | (with_reducible refine Below.setCell ?_ ?_ _) | (with_reducible apply below_at; (case k => (with_reducible assumption)); (case hB => omega)) | (with_reducible apply below_on; (with_reducible assumption)) | (go_size; done) | (with_reducible apply size_of)))⟩)
  · have HV : Hid (occI b i = false) := Lib.hid (by rw [occI, decide_eq_false c2, Bool.false_and])
    (clear h e; go_enter Try.func26, Try.ntmps26; go_wp2_with (go_at_call 23; refine (rBytes _).mono ?_; rintro e w1 ⟨rfl, -, hb1⟩); go_ret; exact ⟨retb HV.out.symm, by (repeat' (first | (with_reducible exact Below.refl _ _) | (with_reducible assumption) | (with_reducible refine below_drewN ?_ _) | (with_reducible refine below_new ?_ _) | (with_reducible refine Below.alloc ?_ ?_ _) | (with_reducible refine Below.drew ?_) | (with_reducible refine Below.setCell ?_ ?_ _) | (with_reducible apply below_at; (case k => (with_reducible assumption)); (case hB => omega)) | (with_reducible apply below_on; (with_reducible assumption)) | (go_size; done) | (with_reducible apply size_of)))⟩)
end Go.Proofs.Ythcpanenjcjgpaa.mkW
