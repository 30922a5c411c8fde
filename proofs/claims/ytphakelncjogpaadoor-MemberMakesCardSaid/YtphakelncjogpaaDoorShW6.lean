/- Paddings, by walks. -/
import Derived.Test.YtphakelncjogpaaDoorShW5
import Derived.Test.YtphakelncjogpaaDoorShPlain2
namespace Go.Proofs.YtphakelncjogpaaDoor.shW
set_option maxRecDepth 100000
open Go.RowKit Go.Proofs.YtphakelncjogpaaDoor.base Go.Proofs.YtphakelncjogpaaDoor.shP
set_option linter.unusedVariables false
set_option linter.unusedSimpArgs false
set_option maxRecDepth 100000 in
set_option maxHeartbeats 4000000 in
theorem padding (n : Nat) (w : World) (hn : n ≤ 20000) :
    Calls Tryd.prog 54 #[.int .i64 (n : Int)] w fun e w' => ∃ A c, e = .returned (.slice A (zerosN n + 9) c) ∧ OwnI w' w.heap.size 5 .u8 (.slice A (zerosN n + 9) c) (padL n) ∧ Below w.heap.size w w' := by
  have n1 : (n : Int) ≤ 20000 := by omega
  obtain ⟨z, hz⟩ : ∃ z, zerosN n = z := ⟨_, rfl⟩
  obtain ⟨m, hm⟩ : ∃ m, z + 9 = m := ⟨_, rfl⟩
  have z64 := zerosN_lt n
  have e1 : (119 - (n : Int) % 64) % 64 = (z : Int) := by unfold zerosN at hz; omega
  have e2 : 1 + (z : Int) = ((z + 1 : Nat) : Int) := by omega
  have e3 : ((z + 1 : Nat) : Int) + 8 = (m : Int) := by omega
  have m1 : (m : Int) ≤ 73 := by omega
  have m2 : 9 ≤ (m : Int) := by omega
  have z1 : (z : Int) ≤ 63 := by omega
  rw [hz, hm]
  have HZ := Lib.hid hz
  have HM := Lib.hid hm
  clear hz hm z64 hn
  have E9 : Hid (1 + (z : Int) + 8 = (m : Int)) := Lib.hid (by omega)
  clear e2 e3
  go_enter Tryd.func54, Tryd.ntmps54
  have HMM : Hid (m ≤ 73) := Lib.hid (by omega)
  go_wp2_with (first | (at_make; go_loud (refine make8 rfl _ _ rfl .i64 .i64 m (congrArg (Value.int IntKind.i64) E9.out) (congrArg (Value.int IntKind.i64) E9.out) (by have := HMM.out; omega) w.heap.size (Nat.le_refl _) ?_; intro wm own hbm; have hc0 := own.cell 0 (by rw [List.length_replicate]; omega); have hf0 := own.frozen 0; have lt0 := own.base_le.2; have e0 : (List.replicate m (0 : Int)).getD 0 0 = 0 := (by cases m <;> rfl); rw [e0] at hc0; have HO := Lib.hid own; have HB := Lib.hid hbm; clear own hbm e0)))
  clear hc0 hf0 lt0
  go_loopw [16] (fun i wr => ∃ k : Nat, k ≤ 8 ∧ i = .int .i64 (k : Int) ∧ OwnI wr w.heap.size 5 .u8 (.slice (some ⟨w.heap.size, 0, none⟩) m m) (pK n k) ∧ Below w.heap.size w wr) (fun i _ => 8 - (intOf i).toNat)
  case atStart =>
    refine ⟨0, by omega, rfl, ?_, by have := HB.out; (repeat' (first | (with_reducible exact Below.refl _ _) | (with_reducible assumption) | (with_reducible refine below_drewN ?_ _) | (with_reducible refine below_new ?_ _) | (with_reducible refine Below.alloc ?_ ?_ _) | (with_reducible refine Below.drew ?_) | (with_reducible refine Below.setCell ?_ ?_ _) | (with_reducible apply below_at; (case k => (with_reducible assumption)); (case hB => omega)) | (with_reducible apply below_on; (with_reducible assumption)) | (go_size; done) | (with_reducible apply size_of)))⟩
    rw [pK_0, HZ.out, HM.out]
    exact HO.out.store 0 128
  case round =>
    clear HO HB
    obtain ⟨k, hk, rfl, own, acc⟩ := hrel
    have HO := Lib.hid own
    have HACC := Lib.hid acc
    by_cases hlt : k < 8
    · obtain ⟨j, hj⟩ : ∃ j, z + 8 - k = j := ⟨_, rfl⟩
      have j1 : (m : Int) - 1 - (k : Int) = (j : Int) := by have := HM.out; omega
      have j2 : (j : Int) < m := by have := HM.out; omega
      have HJ : Hid (j = zerosN n + 8 - k) := Lib.hid (by rw [HZ.out]; omega)
      obtain ⟨old, hc0⟩ : ∃ old, wr.cell? ⟨w.heap.size, j, none⟩ = some old := ⟨_, own.cell j (by rw [pK_len, HZ.out, HM.out]; omega)⟩
      have hf0 := own.frozen j
      have lt0 := own.base_le.2
      have k0 : 0 ≤ (k : Int) := by omega
      have k1 : (k : Int) < 8 := by omega
      have s1 : 8 * (n : Int) ≤ 160000 := by omega
      have s2 : 0 ≤ 8 * (n : Int) := by omega
      have HLT := Lib.hid hlt
      clear own acc hk hlt hj
      go_wp2_with fail
      refine ⟨⟨k + 1, by have := HLT.out; omega, by go_num, ?_, by have := HACC.out; (repeat' (first | (with_reducible exact Below.refl _ _) | (with_reducible assumption) | (with_reducible refine below_drewN ?_ _) | (with_reducible refine below_new ?_ _) | (with_reducible refine Below.alloc ?_ ?_ _) | (with_reducible refine Below.drew ?_) | (with_reducible refine Below.setCell ?_ ?_ _) | (with_reducible apply below_at; (case k => (with_reducible assumption)); (case hB => omega)) | (with_reducible apply below_on; (with_reducible assumption)) | (go_size; done) | (with_reducible apply size_of)))⟩, by simp [intOf]; have := HLT.out; omega⟩
      have := HO.out.store j (8 * (n : Int) / 2 ^ (8 * k) % 256)
      rwa [pK_set n k HLT.out _ rfl j HJ.out] at this
    · have k8 : ¬ (k : Int) < 8 := by omega
      have e8 : k = 8 := by omega
      have HO' : Hid (OwnI wr w.heap.size 5 .u8 (.slice (some ⟨w.heap.size, 0, none⟩) m m) (padL n)) := Lib.hid (by rw [← pK_8, ← e8]; exact HO.out)
      clear own hk hlt e8
      go_wp2_with fail
      go_ret
      exact ⟨_, _, rfl, HO'.out, HACC.out⟩
/-- The reference's padding. -/
def qK (n k : Nat) : List Int := (padL n).take k
theorem padL_at (n k : Nat) : (padL n).getD k 0 = if k = 0 then 128 else if k < zerosN n + 1 then 0 else if k < zerosN n + 9 then (8 * (n : Int)) / 2 ^ (8 * (zerosN n + 8 - k)) % 256 else 0 := by
  rw [padL, List.getD_eq_getElem?_getD]
  rcases k with _ | k
  · rfl
  · rw [List.getElem?_cons_succ, if_neg (by omega)]
    by_cases c : k + 1 < zerosN n + 1
    · rw [if_pos c, List.getElem?_append_left (by simp; omega), List.getElem?_replicate, if_pos (by omega)]; rfl
    · rw [if_neg c, List.getElem?_append_right (by simp; omega), List.length_replicate]
      by_cases c2 : k + 1 < zerosN n + 9
      · rw [if_pos c2, len8, List.getElem?_map, List.getElem?_range (by omega)]
        show 8 * (n : Int) / 2 ^ (8 * (7 - (k - zerosN n))) % 256 = _
        rw [show 7 - (k - zerosN n) = zerosN n + 8 - (k + 1) by omega]
      · rw [if_neg c2, len8, List.getElem?_map, List.getElem?_eq_none (by simp; omega)]; rfl
theorem qK_snoc (n k : Nat) (h : k < zerosN n + 9) : qK n (k + 1) = qK n k ++ [(padL n).getD k 0] := take_snoc 0 _ k (by rw [padL_len]; exact h)
end Go.Proofs.YtphakelncjogpaaDoor.shW
