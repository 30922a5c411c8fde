/- New rows of refiners, by walks. -/
import Derived.Test.YtdmnaipngcldbaaDoorRfW8
import Derived.Test.YtdmnaipngcldbaaDoorSqW2
import Derived.Test.YtdmnaipngcldbaaDoorRowsO
import Derived.Deep.RegionLaw
namespace Go.Proofs.YtdmnaipngcldbaaDoor.rfP
set_option maxRecDepth 100000
open Go.Proofs.YtdmnaipngcldbaaDoor.base Go.Proofs.YtdmnaipngcldbaaDoor.sqP
def sqRow : List Int := (List.range 33).map fun j : Nat => 16 * sq (128 * (j : Int) - 2048)
theorem sqRow_len : sqRow.length = 33 := by simp [sqRow]
theorem sqRow_at (j : Nat) (h : j < 33) : sqRow.getD j 0 = 16 * sq (128 * (j : Int) - 2048) := by
  unfold sqRow
  rw [List.getD_eq_getElem?_getD, List.getElem?_map, List.getElem?_range h]
  rfl
theorem sqRow_ok : rowB sqRow = true := by decide +kernel
theorem sqRow_bd : ∀ z ∈ sqRow, -2147483648 ≤ z ∧ z ≤ 2147483647 := fun z hz => by
  have := ((rowB_iff _).1 sqRow_ok).2 z hz
  omega
/-- The first places. -/
def sqF (k : Nat) : List Int := fill 0 sqRow k
theorem sqF_0 : sqF 0 = List.replicate 33 0 := by unfold sqF; rw [fill_zero, sqRow_len]
theorem sqF_33 : sqF 33 = sqRow := by unfold sqF; rw [fill_all (by rw [sqRow_len]; exact Nat.le_refl _)]
theorem sqF_set (k : Nat) (h : k < 33) : (sqF k).set k (16 * sq (128 * (k : Int) - 2048)) = sqF (k + 1) := by
  unfold sqF
  rw [← fill_set (by rw [sqRow_len]; exact h) 0, sqRow_at k h]
theorem sqF_len (k : Nat) (h : k ≤ 33) : (sqF k).length = 33 := by unfold sqF; rw [fill_len (by rw [sqRow_len]; exact h), sqRow_len]
def sqT (k : Nat) : List Int := sqRow.take k
theorem sqT_0 : sqT 0 = [] := rfl
theorem sqT_33 : sqT 33 = sqRow := by unfold sqT; rw [List.take_of_length_le (by rw [sqRow_len]; exact Nat.le_refl _)]
theorem sqT_len (k : Nat) (h : k ≤ 33) : (sqT k).length = k := by unfold sqT; rw [List.length_take, sqRow_len]; omega
theorem sqT_snoc (k : Nat) (h : k < 33) : sqT k ++ [16 * sq (128 * (k : Int) - 2048)] = sqT (k + 1) := by
  unfold sqT
  rw [take_snoc 0 sqRow k (by rw [sqRow_len]; exact h), sqRow_at k h]
attribute [irreducible] sqRow sqF sqT
end Go.Proofs.YtdmnaipngcldbaaDoor.rfP
namespace Go.Proofs.YtdmnaipngcldbaaDoor.rfW
set_option maxRecDepth 100000
open Go.RowKit Go.Proofs.YtdmnaipngcldbaaDoor.base Go.Proofs.YtdmnaipngcldbaaDoor.rfP Go.Proofs.YtdmnaipngcldbaaDoor.sqP Go.Proofs.YtdmnaipngcldbaaDoor.sqW
set_option linter.unusedVariables false
set_option linter.unusedSimpArgs false
theorem own_lt {w : World} {B : Nat} {e : TypeId} {k : IntKind} {g n c : Nat} {zs : List Int} (h : OwnI w B e k (.slice (some ⟨g, 0, none⟩) n c) zs) : g < w.heap.size := (h.base_le).2
set_option maxHeartbeats 400000 in
theorem newRow_any (w : World) (hT : Tab w) :
    Calls Tryd.prog 48 #[] w fun e w' => e = .returned (.slice (some ⟨w.heap.size, 0, none⟩) 33 33) ∧ OwnI w' w.heap.size 21 .i32 (.slice (some ⟨w.heap.size, 0, none⟩) 33 33) sqRow ∧ Below w.heap.size w w' := by
  have HT := Lib.hid hT
  clear hT
  go_enter Tryd.func48, Tryd.ntmps48
  go_wp2_with (at_make; refine make32 rfl _ _ rfl .i64 .i64 33 rfl rfl (by decide) w.heap.size (Nat.le_refl _) ?_; intro w1 ho1 hb1; have HO1 : Hid (OwnI w1 w.heap.size 21 .i32 (.slice (some ⟨w.heap.size, 0, none⟩) 33 33) (sqF 0)) := Lib.hid (by rw [sqF_0]; exact ho1); have HB1 := Lib.hid hb1; clear ho1 hb1)
  go_loopw [6] (fun iv wr => ∃ k : Nat, k ≤ 33 ∧ iv = .int .i64 k ∧ OwnI wr w.heap.size 21 .i32 (.slice (some ⟨w.heap.size, 0, none⟩) 33 33) (sqF k) ∧ Below w.heap.size w wr) (fun iv _ => 33 - (intOf iv).toNat)
  case atStart => exact ⟨0, by omega, rfl, HO1.out, HB1.out⟩
  case round =>
    obtain ⟨k, hk, rfl, ho, hb⟩ := hrel
    have HO := Lib.hid ho
    have HB := Lib.hid hb
    clear ho hb
    by_cases hlt : k < 33
    · have HLT := Lib.hid hlt
      have k1 : (k : Int) < 33 := by omega
      have k0 : 0 ≤ (k : Int) := by omega
      have q1 : 0 ≤ 16 * sq (128 * (k : Int) - 2048) ∧ 16 * sq (128 * (k : Int) - 2048) ≤ 65520 := by have := sq_bd (128 * (k : Int) - 2048); omega
      have HQ := Lib.hid (sqF_set k hlt)
      clear hlt hk
      have f1 : wr.cell? ⟨w.heap.size, k, none⟩ = some (.int .i32 ((sqF k).getD k 0)) := HO.out.cell k (by rw [sqF_len k (by have := HLT.out; omega)]; exact HLT.out)
      have f2 : wr.frozen? ⟨w.heap.size, k, none⟩ = false := HO.out.frozen k
      go_wp2_with fail
      with_reducible refine (sq_any _ wr (HT.out.below HB.out)).mono ?_
      rintro e w2 ⟨rfl, nn, rfl⟩
      rw [show 128 * ((k : Int) - 16) = 128 * (k : Int) - 2048 from by omega]
      generalize sq (128 * (k : Int) - 2048) = v at *
      have q2 := q1.1
      have q3 := q1.2
      clear q1
      go_wp2_with fail
      go_roundw
      case rel => exact ⟨k + 1, by have := HLT.out; omega, by go_num, by have h1 := (HO.out.below (below_drewN (Below.refl _ _) nn) (Nat.le_refl wr.heap.size)).store k (16 * v); rw [HQ.out] at h1; exact h1, by have := HB.out; (repeat' (first | (with_reducible exact Below.refl _ _) | (with_reducible assumption) | (with_reducible refine below_drewN ?_ _) | (with_reducible refine below_new ?_ _) | (with_reducible refine Below.alloc ?_ ?_ _) | (with_reducible refine Below.drew ?_) | (with_reducible refine Below.setCell ?_ ?_ _) | (with_reducible apply below_at; (case k => (with_reducible assumption)); (case hB => omega)) | (with_reducible apply below_on; (with_reducible assumption)) | (go_size; done) | (with_reducible apply size_of)))⟩
      case measure => simp [intOf]; have := HLT.out; omega
    · obtain rfl : k = 33 := by omega
      clear hlt hk
      go_wp2_with fail
      go_ret
      exact ⟨rfl, by have := HO.out; rwa [sqF_33] at this, HB.out⟩
set_option maxHeartbeats 400000 in
theorem rRow_any (w : World) :
    Calls Tryd.prog 50 #[] w fun e w' => ∃ A c, e = .returned (.slice A 33 c) ∧ OwnI w' w.heap.size 21 .i32 (.slice A 33 c) sqRow ∧ Below w.heap.size w w' := by
  go_enter Tryd.func50, Tryd.ntmps50
  go_wp2_with fail
  go_loopw [1, 2] (fun av iv wr => ∃ (k : Nat) (A : Option Addr) (c : Nat), k ≤ 33 ∧ iv = .int .i32 k ∧ av = .slice A k c ∧ OwnI wr w.heap.size 21 .i32 (.slice A k c) (sqT k) ∧ Below w.heap.size w wr) (fun _ iv _ => 33 - (intOf iv).toNat)
  case atStart => exact ⟨0, none, 0, by omega, rfl, rfl, by rw [sqT_0]; exact OwnI.nil _ _ _ _, Below.refl _ _⟩
  case round =>
    obtain ⟨k, A, c, hk, rfl, rfl, ho, hb⟩ := hrel
    have HO := Lib.hid ho
    have HB := Lib.hid hb
    clear ho hb
    by_cases hlt : k < 33
    · have HLT := Lib.hid hlt
      have k1 : (k : Int) < 33 := by omega
      have k0 : 0 ≤ (k : Int) := by omega
      have q1 : 0 ≤ 16 * sq (128 * (k : Int) - 2048) ∧ 16 * sq (128 * (k : Int) - 2048) ≤ 65520 := by have := sq_bd (128 * (k : Int) - 2048); omega
      have HQ := Lib.hid (sqT_snoc k hlt)
      have HTL := Lib.hid (sqT_len k (by omega))
      clear hlt hk
      go_wp2_with fail
      with_reducible refine (rsq_any _ wr).mono ?_
      rintro e w2 ⟨rfl, hb2⟩
      have HB2 := Lib.hid hb2
      clear hb2
      generalize sq (128 * (k : Int) - 2048) = v at *
      have q2 := q1.1
      have q3 := q1.2
      clear q1
      go_wp2_with (at_builtin; refine app32 rfl _ _ rfl w.heap.size _ _ rfl ((HO.out.below HB2.out (Nat.le_refl _)).below ((Below.refl _ _).alloc (Nat.le_refl _) _) (Nat.le_refl _)) (some ⟨w2.heap.size, 0, none⟩) 1 1 [16 * v] rfl rfl (has_lit (zs := [16 * v]) rfl (by simp [maxLen])) (k + 1) ?c0 ?c1 ?c2 ?_; (case c0 => rw [HTL.out]); (case c1 => (have := HLT.out; omega)); (case c2 => (have h1 := HB.out.size; have h2 := HB2.out.size; simp; omega)); intro A5 c5 w5 ho5 hl5 hb5; rw [HQ.out] at ho5; have HO5 := Lib.hid ho5; have HB5 := Lib.hid hb5; clear ho5 hl5 hb5)
      go_roundw
      case rel => exact ⟨k + 1, A5, c5, by have := HLT.out; omega, by go_num, rfl, HO5.out, ((HB.out.trans (HB2.out.mono HB.out.size)).alloc (HB.out.trans (HB2.out.mono HB.out.size)).size _).trans HB5.out⟩
      case measure => simp [intOf]; have := HLT.out; omega
    · obtain rfl : k = 33 := by omega
      clear hlt hk
      go_wp2_with fail
      go_ret
      exact ⟨A, c, rfl, by have := HO.out; rwa [sqT_33] at this, HB.out⟩
end Go.Proofs.YtdmnaipngcldbaaDoor.rfW
