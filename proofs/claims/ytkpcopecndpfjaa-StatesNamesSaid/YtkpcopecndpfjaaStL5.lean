/- StatesNames, by a walk. -/
import Derived.Test.YtkpcopecndpfjaaStL
import Derived.Test.YtkpcopecndpfjaaMem8
namespace Go.Proofs.Ytkpcopecndpfjaa.stL
open Go.RowKit Go.Proofs.Ytkpcopecndpfjaa.base Go.Proofs.Ytkpcopecndpfjaa.cntP Go.Proofs.Ytkpcopecndpfjaa.stP Go.Proofs.Ytkpcopecndpfjaa.cntW Go.Proofs.Ytkpcopecndpfjaa.stW
set_option linter.unusedVariables false
set_option linter.unusedSimpArgs false
theorem bits_rep {n : Nat} : bitsB (List.replicate n 0) = true := (bitsB_iff _).2 fun z h => by rw [List.eq_of_mem_replicate h]; omega
theorem rep_in {n : Nat} : ∀ z ∈ List.replicate n (0 : Int), 0 ≤ z ∧ z ≤ 255 := fun z h => by rw [List.eq_of_mem_replicate h]; omega
theorem full_89 : stR 0 (List.replicate 20000 0) = 89 := by
  rw [stR, if_pos (by omega), if_neg (by rw [List.length_replicate]; omega), if_pos bits_rep]
  have h := sRun_of (List.replicate 20000 0) ⟨0, 0, 0⟩ rfl fun z h => .inl (List.eq_of_mem_replicate h)
  have h0 : sOf ⟨0, 0, 0⟩ = 0 := rfl
  rw [h0] at h
  rw [h]
  obtain ⟨r1, r2, r3⟩ := run_zeros ⟨0, 0, 0⟩ (by show (0 : Int) ≤ 12; omega) 20000
  have g : growTo 0 20000 = 12 := by unfold growTo; rw [if_neg (by omega)]
  have s0 : ∀ n : Nat, shrN n 0 = 0 := fun n => by
    induction n with
    | zero => rfl
    | succ n ih => show shr (shrN n 0) = 0; rw [ih]; rfl
  have e : run ⟨0, 0, 0⟩ (List.replicate 20000 0) = ⟨12, 0, 0⟩ := by
    generalize run ⟨0, 0, 0⟩ (List.replicate 20000 0) = c at *
    obtain ⟨a, b, l⟩ := c
    simp only at r1 r2 r3
    rw [g] at r1
    rw [s0] at r2
    rw [r1, r2, r3 (by omega)]
  rw [e]
  rfl
set_option maxRecDepth 100000 in
set_option maxHeartbeats 4000000 in
theorem names (w : World) : Calls Try.prog 10 #[] w fun e w' => e = .returned (.bool true) ∧ Below w.heap.size w w' := by
  have A1 : Hid (stN 193 0 = 0) := Lib.hid (by kernel_rfl)
  have A2 : Hid (stE 193 0 = 2) := Lib.hid (by kernel_rfl)
  have B1 : Hid (stN 0 2 = 0) := Lib.hid (by kernel_rfl)
  have B2 : Hid (stE 0 2 = 2) := Lib.hid (by kernel_rfl)
  have C1 : Hid (cntC 193 = ⟨0, 0, 0⟩) := Lib.hid (by kernel_rfl)
  have C2 : Hid (cntE 193 = 2) := Lib.hid (by kernel_rfl)
  have D1 : Hid (numV ⟨0, 0, 1⟩ = 0) := Lib.hid (by kernel_rfl)
  have D2 : Hid (chk ⟨0, 0, 1⟩ = 8) := Lib.hid (by kernel_rfl)
  have E1 : Hid (stT 255 = 0) := Lib.hid (by kernel_rfl)
  have E2 : Hid (cntE 255 = 2) := Lib.hid (by kernel_rfl)
  have F1 : Hid (stR 193 (List.replicate 20001 0) = 0) := Lib.hid (by rw [stR, if_neg (by omega)])
  have F2 : Hid (stRE 193 (List.replicate 20001 0) = 2) := Lib.hid (by rw [stRE, if_neg (by omega)])
  have G1 : Hid (stR 0 (List.replicate 20001 0) = 0) := Lib.hid (by rw [stR, if_pos (by omega), if_pos (by rw [List.length_replicate]; omega)])
  have G2 : Hid (stRE 0 (List.replicate 20001 0) = 4) := Lib.hid (by rw [stRE, if_pos (by omega), if_pos (by rw [List.length_replicate]; omega)])
  have H1 : Hid (stR 0 [1, 2] = 0) := Lib.hid (by kernel_rfl)
  have H2 : Hid (stRE 0 [1, 2] = 2) := Lib.hid (by kernel_rfl)
  have I1 : Hid (stR 50 [] = 50) := Lib.hid (by kernel_rfl)
  have I2 : Hid (stRE 50 [] = 0) := Lib.hid (by kernel_rfl)
  have J1 : Hid (numV ⟨0, 0, 0⟩ = 0) := Lib.hid (by kernel_rfl)
  have J2 : Hid (chk ⟨0, 0, 0⟩ = 0) := Lib.hid (by kernel_rfl)
  have K1 : Hid (numV ⟨12, 7, 0⟩ = 96) := Lib.hid (by kernel_rfl)
  have K2 : Hid (chk ⟨12, 7, 0⟩ = 0) := Lib.hid (by kernel_rfl)
  have L1 : Hid (numV ⟨0, 1, 1⟩ = 97) := Lib.hid (by kernel_rfl)
  have L2 : Hid (chk ⟨0, 1, 1⟩ = 0) := Lib.hid (by kernel_rfl)
  have M1 : Hid (stR 0 (List.replicate 20000 0) = 89) := Lib.hid (full_89)
  have M2 : Hid (stRE 0 (List.replicate 20000 0) = 0) := Lib.hid (by rw [stRE, if_pos (by omega), if_neg (by rw [List.length_replicate]; omega), if_pos bits_rep])
  have N1 : Hid (stT 192 = 19) := Lib.hid (by kernel_rfl)
  have N2 : Hid (cntE 192 = 0) := Lib.hid (by kernel_rfl)
  have acc := Below.refl w.heap.size w
  go_enter Try.func10, Try.ntmps10
  go_wp2_with fail
  refine (NextS_any 193 0 _ (by omega) (by omega) (by omega) (by omega)).mono ?_
  rintro e w1 ⟨rfl, hb1⟩
  rw [A1.out, A2.out]
  replace acc : Below w.heap.size w w1 := by (repeat' (first | (with_reducible exact Below.refl _ _) | (with_reducible assumption) | (with_reducible refine below_drewN ?_ _) | (with_reducible refine below_new ?_ _) | (with_reducible refine Below.alloc ?_ ?_ _) | (with_reducible refine Below.drew ?_) | (with_reducible refine Below.setCell ?_ ?_ _) | (with_reducible apply below_on; (with_reducible assumption)) | (go_size; done) | (with_reducible apply size_of)))
  clear hb1
  go_wp2_with fail
  refine (NextS_any 0 2 _ (by omega) (by omega) (by omega) (by omega)).mono ?_
  rintro e w2 ⟨rfl, hb2⟩
  rw [B1.out, B2.out]
  replace acc : Below w.heap.size w w2 := by (repeat' (first | (with_reducible exact Below.refl _ _) | (with_reducible assumption) | (with_reducible refine below_drewN ?_ _) | (with_reducible refine below_new ?_ _) | (with_reducible refine Below.alloc ?_ ?_ _) | (with_reducible refine Below.drew ?_) | (with_reducible refine Below.setCell ?_ ?_ _) | (with_reducible apply below_on; (with_reducible assumption)) | (go_size; done) | (with_reducible apply size_of)))
  clear hb2
  go_wp2_with fail
  refine (Count_any 193 _ (by omega) (by omega)).mono ?_
  rintro e w3 ⟨rfl, hb3⟩
  rw [C1.out, C2.out]
  replace acc : Below w.heap.size w w3 := by (repeat' (first | (with_reducible exact Below.refl _ _) | (with_reducible assumption) | (with_reducible refine below_drewN ?_ _) | (with_reducible refine below_new ?_ _) | (with_reducible refine Below.alloc ?_ ?_ _) | (with_reducible refine Below.drew ?_) | (with_reducible refine Below.setCell ?_ ?_ _) | (with_reducible apply below_on; (with_reducible assumption)) | (go_size; done) | (with_reducible apply size_of)))
  clear hb3
  go_wp2_with fail
  refine (Number_any ⟨0, 0, 1⟩ _ ⟨by decide, by decide, by decide, by decide, by decide, by decide⟩).mono ?_
  rintro e w4 ⟨rfl, hb4⟩
  rw [D1.out, D2.out]
  replace acc : Below w.heap.size w w4 := by (repeat' (first | (with_reducible exact Below.refl _ _) | (with_reducible assumption) | (with_reducible refine below_drewN ?_ _) | (with_reducible refine below_new ?_ _) | (with_reducible refine Below.alloc ?_ ?_ _) | (with_reducible refine Below.drew ?_) | (with_reducible refine Below.setCell ?_ ?_ _) | (with_reducible apply below_on; (with_reducible assumption)) | (go_size; done) | (with_reducible apply size_of)))
  clear hb4
  go_wp2_with fail
  refine (Total_any' 255 _ (by omega) (by omega)).mono ?_
  rintro e w5 ⟨rfl, hb5⟩
  rw [E1.out, E2.out]
  replace acc : Below w.heap.size w w5 := by (repeat' (first | (with_reducible exact Below.refl _ _) | (with_reducible assumption) | (with_reducible refine below_drewN ?_ _) | (with_reducible refine below_new ?_ _) | (with_reducible refine Below.alloc ?_ ?_ _) | (with_reducible refine Below.drew ?_) | (with_reducible refine Below.setCell ?_ ?_ _) | (with_reducible apply below_on; (with_reducible assumption)) | (go_size; done) | (with_reducible apply size_of)))
  clear hb5
  go_wp2_with (first | (at_make; refine make8 rfl _ _ rfl _ _ 20001 rfl rfl (by omega) _ (Nat.le_refl _) ?_; intro wm own hbm))
  have hh := own.has
  replace acc := below_on hbm acc
  clear own hbm
  refine (RunS_any 193 _ _ _ (List.replicate 20001 0) _ (by omega) (by omega) rep_in hh List.length_replicate (by omega)).mono ?_
  rintro e w6 ⟨rfl, hb6⟩
  rw [F1.out, F2.out]
  replace acc : Below w.heap.size w w6 := by (repeat' (first | (with_reducible exact Below.refl _ _) | (with_reducible assumption) | (with_reducible refine below_drewN ?_ _) | (with_reducible refine below_new ?_ _) | (with_reducible refine Below.alloc ?_ ?_ _) | (with_reducible refine Below.drew ?_) | (with_reducible refine Below.setCell ?_ ?_ _) | (with_reducible apply below_on; (with_reducible assumption)) | (go_size; done) | (with_reducible apply size_of)))
  clear hb6
  clear hh
  go_wp2_with (first | (at_make; refine make8 rfl _ _ rfl _ _ 20001 rfl rfl (by omega) _ (Nat.le_refl _) ?_; intro wm own hbm))
  have hh := own.has
  replace acc := below_on hbm acc
  clear own hbm
  refine (RunS_any 0 _ _ _ (List.replicate 20001 0) _ (by omega) (by omega) rep_in hh List.length_replicate (by omega)).mono ?_
  rintro e w7 ⟨rfl, hb7⟩
  rw [G1.out, G2.out]
  replace acc : Below w.heap.size w w7 := by (repeat' (first | (with_reducible exact Below.refl _ _) | (with_reducible assumption) | (with_reducible refine below_drewN ?_ _) | (with_reducible refine below_new ?_ _) | (with_reducible refine Below.alloc ?_ ?_ _) | (with_reducible refine Below.drew ?_) | (with_reducible refine Below.setCell ?_ ?_ _) | (with_reducible apply below_on; (with_reducible assumption)) | (go_size; done) | (with_reducible apply size_of)))
  clear hb7
  clear hh
  go_wp2_with fail
  refine (RunS_any 0 _ 2 2 [1, 2] _ (by omega) (by omega) (by decide) (has_lit rfl (by decide)) rfl (by omega)).mono ?_
  rintro e w8 ⟨rfl, hb8⟩
  rw [H1.out, H2.out]
  replace acc : Below w.heap.size w w8 := by (repeat' (first | (with_reducible exact Below.refl _ _) | (with_reducible assumption) | (with_reducible refine below_drewN ?_ _) | (with_reducible refine below_new ?_ _) | (with_reducible refine Below.alloc ?_ ?_ _) | (with_reducible refine Below.drew ?_) | (with_reducible refine Below.setCell ?_ ?_ _) | (with_reducible apply below_on; (with_reducible assumption)) | (go_size; done) | (with_reducible apply size_of)))
  clear hb8
  go_wp2_with fail
  refine (RunS_any 50 _ 0 0 [] _ (by omega) (by omega) (by decide) (.inl rfl) rfl (by omega)).mono ?_
  rintro e w9 ⟨rfl, hb9⟩
  rw [I1.out, I2.out]
  replace acc : Below w.heap.size w w9 := by (repeat' (first | (with_reducible exact Below.refl _ _) | (with_reducible assumption) | (with_reducible refine below_drewN ?_ _) | (with_reducible refine below_new ?_ _) | (with_reducible refine Below.alloc ?_ ?_ _) | (with_reducible refine Below.drew ?_) | (with_reducible refine Below.setCell ?_ ?_ _) | (with_reducible apply below_on; (with_reducible assumption)) | (go_size; done) | (with_reducible apply size_of)))
  clear hb9
  go_wp2_with fail
  refine (Number_any ⟨0, 0, 0⟩ _ ⟨by decide, by decide, by decide, by decide, by decide, by decide⟩).mono ?_
  rintro e w10 ⟨rfl, hb10⟩
  rw [J1.out, J2.out]
  replace acc : Below w.heap.size w w10 := by (repeat' (first | (with_reducible exact Below.refl _ _) | (with_reducible assumption) | (with_reducible refine below_drewN ?_ _) | (with_reducible refine below_new ?_ _) | (with_reducible refine Below.alloc ?_ ?_ _) | (with_reducible refine Below.drew ?_) | (with_reducible refine Below.setCell ?_ ?_ _) | (with_reducible apply below_on; (with_reducible assumption)) | (go_size; done) | (with_reducible apply size_of)))
  clear hb10
  go_wp2_with fail
  refine (Number_any ⟨12, 7, 0⟩ _ ⟨by decide, by decide, by decide, by decide, by decide, by decide⟩).mono ?_
  rintro e w11 ⟨rfl, hb11⟩
  rw [K1.out, K2.out]
  replace acc : Below w.heap.size w w11 := by (repeat' (first | (with_reducible exact Below.refl _ _) | (with_reducible assumption) | (with_reducible refine below_drewN ?_ _) | (with_reducible refine below_new ?_ _) | (with_reducible refine Below.alloc ?_ ?_ _) | (with_reducible refine Below.drew ?_) | (with_reducible refine Below.setCell ?_ ?_ _) | (with_reducible apply below_on; (with_reducible assumption)) | (go_size; done) | (with_reducible apply size_of)))
  clear hb11
  go_wp2_with fail
  refine (Number_any ⟨0, 1, 1⟩ _ ⟨by decide, by decide, by decide, by decide, by decide, by decide⟩).mono ?_
  rintro e w12 ⟨rfl, hb12⟩
  rw [L1.out, L2.out]
  replace acc : Below w.heap.size w w12 := by (repeat' (first | (with_reducible exact Below.refl _ _) | (with_reducible assumption) | (with_reducible refine below_drewN ?_ _) | (with_reducible refine below_new ?_ _) | (with_reducible refine Below.alloc ?_ ?_ _) | (with_reducible refine Below.drew ?_) | (with_reducible refine Below.setCell ?_ ?_ _) | (with_reducible apply below_on; (with_reducible assumption)) | (go_size; done) | (with_reducible apply size_of)))
  clear hb12
  go_wp2_with (first | (at_make; refine make8 rfl _ _ rfl _ _ 20000 rfl rfl (by omega) _ (Nat.le_refl _) ?_; intro wm own hbm))
  have hh := own.has
  replace acc := below_on hbm acc
  clear own hbm
  refine (RunS_any 0 _ _ _ (List.replicate 20000 0) _ (by omega) (by omega) rep_in hh List.length_replicate (by omega)).mono ?_
  rintro e w13 ⟨rfl, hb13⟩
  rw [M1.out, M2.out]
  replace acc : Below w.heap.size w w13 := by (repeat' (first | (with_reducible exact Below.refl _ _) | (with_reducible assumption) | (with_reducible refine below_drewN ?_ _) | (with_reducible refine below_new ?_ _) | (with_reducible refine Below.alloc ?_ ?_ _) | (with_reducible refine Below.drew ?_) | (with_reducible refine Below.setCell ?_ ?_ _) | (with_reducible apply below_on; (with_reducible assumption)) | (go_size; done) | (with_reducible apply size_of)))
  clear hb13
  clear hh
  go_wp2_with fail
  refine (Total_any' 192 _ (by omega) (by omega)).mono ?_
  rintro e w14 ⟨rfl, hb14⟩
  rw [N1.out, N2.out]
  replace acc : Below w.heap.size w w14 := by (repeat' (first | (with_reducible exact Below.refl _ _) | (with_reducible assumption) | (with_reducible refine below_drewN ?_ _) | (with_reducible refine below_new ?_ _) | (with_reducible refine Below.alloc ?_ ?_ _) | (with_reducible refine Below.drew ?_) | (with_reducible refine Below.setCell ?_ ?_ _) | (with_reducible apply below_on; (with_reducible assumption)) | (go_size; done) | (with_reducible apply size_of)))
  clear hb14
  go_wp2_with (first | (go_at_call 33; refine (Size_any _).mono ?_; rintro e w' ⟨rfl, rfl⟩) | (go_at_call 34; refine (alive _).mono ?_; rintro e w' ⟨rfl, hbz⟩))
  go_ret
  exact ⟨rfl, by (repeat' (first | (with_reducible exact Below.refl _ _) | (with_reducible assumption) | (with_reducible refine below_drewN ?_ _) | (with_reducible refine below_new ?_ _) | (with_reducible refine Below.alloc ?_ ?_ _) | (with_reducible refine Below.drew ?_) | (with_reducible refine Below.setCell ?_ ?_ _) | (with_reducible apply below_on; (with_reducible assumption)) | (go_size; done) | (with_reducible apply size_of)))⟩
end Go.Proofs.Ytkpcopecndpfjaa.stL
