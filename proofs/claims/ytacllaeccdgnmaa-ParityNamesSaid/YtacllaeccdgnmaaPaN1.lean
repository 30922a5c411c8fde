/- ParityNames, by a walk. (Written by tools/gen_panames.py.) -/
import Derived.Test.YtacllaeccdgnmaaPaRc
import Derived.Test.YtacllaeccdgnmaaPaA
import Derived.Test.YtacllaeccdgnmaaPaN0
import Derived.Test.YtacllaeccdgnmaaMakeS
import Derived.BigQuiet
namespace Go.Proofs.Ytacllaeccdgnmaa.paL
set_option maxRecDepth 100000
open Go.RowKit Go.Proofs.Ytacllaeccdgnmaa.base Go.Proofs.Ytacllaeccdgnmaa.paP Go.Proofs.Ytacllaeccdgnmaa.paW
set_option linter.unusedVariables false
set_option linter.unusedSimpArgs false
set_option maxRecDepth 100000
theorem bs_nils (n : Nat) : bs (List.replicate n r80) = List.replicate n [] := by unfold bs; simp [r80]
theorem rv_no {l : List (List Int)} {k x : Int} {p : List Int} (h : repE l k p = x) (hx : x ≠ 0) : repV l k p = [] := by unfold repV; rw [if_neg (by rw [h]; exact hx)]
theorem of_no {l : List (List Int)} {x : Int} (h : gE l = x) (hx : x ≠ 0) : ofV l = [] := by unfold ofV; rw [if_neg (by rw [h]; exact hx)]
theorem one_in {w : World} {a : R8} (ha : InR w a) : ∀ r ∈ [a], InR w r := fun r hr => by rw [List.mem_singleton.1 hr]; exact ha
theorem three_in {w : World} {a b c : R8} (ha : InR w a) (hb : InR w b) (hc : InR w c) : ∀ r ∈ [a, b, c], InR w r := fun r hr => by
  simp only [List.mem_cons, List.mem_nil_iff, or_false] at hr
  rcases hr with rfl | rfl | rfl
  · exact ha
  · exact hb
  · exact hc
theorem inr_z {w : World} {Z : List Int} {n : Nat} (hz : List.replicate n (0 : Int) = Z) (hn : n ≤ 10000) {g : Nat} (hg : w.heap.size = g) : InR (w.alloc (.cells (zCells n) 5)) ⟨some ⟨g, 0, none⟩, n, n, Z⟩ := by
  subst hz
  exact ⟨has_z w _ n (by unfold maxLen; omega) hg, by simp, Nat.le_refl _, by show n ≤ 9223372036854775807; omega, zeros_byt _⟩
theorem w1 : ofV (bs ([] : List R8)) = [0, 0] ∧ gE (bs ([] : List R8)) = 0 := v1
theorem w2 : ofV (bs [r80]) = [0, 0] ∧ gE (bs [r80]) = 0 := v2
theorem w3 : ofV (List.replicate 17 []) = [] ∧ gE (List.replicate 17 []) = 4 := v3
theorem pl_len {qs : List R8} {l : List (List Int)} {n : Nat} (h : bs qs = l) (hn : l.length = n) : qs.length = n := by rw [← hn, ← h]; unfold bs; simp
set_option maxHeartbeats 40000000 in
theorem names_law (w : World) : Calls Try.prog 4 #[] w fun e w' => e = .returned (.bool true) ∧ Below w.heap.size w w' := by
  have kS1 : ∀ W : World, (Instr.makeSlice 22 (.int .i64 1) (.int .i64 1)).run Try.prog W = .ok (.slice (some ⟨W.heap.size, 0, none⟩) 1 1) (W.alloc (.cells (sCells 1) 36)) := fun W => mkS 1 (by omega) W
  have kS2 : ∀ W : World, (Instr.makeSlice 22 (.int .i64 2) (.int .i64 2)).run Try.prog W = .ok (.slice (some ⟨W.heap.size, 0, none⟩) 2 2) (W.alloc (.cells (sCells 2) 36)) := fun W => mkS 2 (by omega) W
  have kS17 : ∀ W : World, (Instr.makeSlice 22 (.int .i64 17) (.int .i64 17)).run Try.prog W = .ok (.slice (some ⟨W.heap.size, 0, none⟩) 17 17) (W.alloc (.cells (sCells 17) 36)) := fun W => mkS 17 (by omega) W
  have kS100 : ∀ W : World, (Instr.makeSlice 22 (.int .i64 100) (.int .i64 100)).run Try.prog W = .ok (.slice (some ⟨W.heap.size, 0, none⟩) 100 100) (W.alloc (.cells (sCells 100) 36)) := fun W => mkS 100 (by omega) W
  have kS101 : ∀ W : World, (Instr.makeSlice 22 (.int .i64 101) (.int .i64 101)).run Try.prog W = .ok (.slice (some ⟨W.heap.size, 0, none⟩) 101 101) (W.alloc (.cells (sCells 101) 36)) := fun W => mkS 101 (by omega) W
  have kZ5000 : ∀ W : World, (Instr.makeSlice 36 (.int .i64 5000) (.int .i64 5000)).run Try.prog W = .ok (.slice (some ⟨W.heap.size, 0, none⟩) 5000 5000) (W.alloc (.cells (zCells 5000) 5)) := fun W => mk8 5000 (by omega) W
  have kZ5001 : ∀ W : World, (Instr.makeSlice 36 (.int .i64 5001) (.int .i64 5001)).run Try.prog W = .ok (.slice (some ⟨W.heap.size, 0, none⟩) 5001 5001) (W.alloc (.cells (zCells 5001) 5)) := fun W => mk8 5001 (by omega) W
  have kZ5003 : ∀ W : World, (Instr.makeSlice 36 (.int .i64 5003) (.int .i64 5003)).run Try.prog W = .ok (.slice (some ⟨W.heap.size, 0, none⟩) 5003 5003) (W.alloc (.cells (zCells 5003) 5)) := fun W => mk8 5003 (by omega) W
  have kB2 : ∀ W : World, (Instr.makeSlice 23 (.int .i64 2) (.int .i64 2)).run Try.prog W = .ok (.slice (some ⟨W.heap.size, 0, none⟩) 2 2) (W.alloc (.cells (bCells 2) 4)) := fun W => mkB 2 (by omega) W
  have kB3 : ∀ W : World, (Instr.makeSlice 23 (.int .i64 3) (.int .i64 3)).run Try.prog W = .ok (.slice (some ⟨W.heap.size, 0, none⟩) 3 3) (W.alloc (.cells (bCells 3) 4)) := fun W => mkB 3 (by omega) W
  have kB101 : ∀ W : World, (Instr.makeSlice 23 (.int .i64 101) (.int .i64 101)).run Try.prog W = .ok (.slice (some ⟨W.heap.size, 0, none⟩) 101 101) (W.alloc (.cells (bCells 101) 4)) := fun W => mkB 101 (by omega) W
  have kc := fun (w : World) (C : Array Value) (n c g : Nat) (hg : g = w.heap.size) => Joins.run_convert_bytes_const_at (P := Try.prog) w 36 5 C n c g hg Try.underlying36 Try.underlying5
  obtain ⟨Z0, hZ0⟩ : ∃ Z : List Int, List.replicate 5000 0 = Z := ⟨_, rfl⟩
  have HZ0 : Hid (List.replicate 5000 0 = Z0 ∧ Z0.length = 5000 ∧ Byt Z0) := Lib.hid ⟨hZ0, by rw [← hZ0]; simp, by rw [← hZ0]; exact zeros_byt _⟩
  obtain ⟨Z1, hZ1⟩ : ∃ Z : List Int, List.replicate 5001 0 = Z := ⟨_, rfl⟩
  have HZ1 : Hid (List.replicate 5001 0 = Z1 ∧ Z1.length = 5001 ∧ Byt Z1) := Lib.hid ⟨hZ1, by rw [← hZ1]; simp, by rw [← hZ1]; exact zeros_byt _⟩
  obtain ⟨Z3, hZ3⟩ : ∃ Z : List Int, List.replicate 5003 0 = Z := ⟨_, rfl⟩
  have HZ3 : Hid (List.replicate 5003 0 = Z3 ∧ Z3.length = 5003 ∧ Byt Z3) := Lib.hid ⟨hZ3, by rw [← hZ3]; simp, by rw [← hZ3]; exact zeros_byt _⟩
  have V4 : Hid (gE [Z1] = 4 ∧ ofV [Z1] = []) := Lib.hid (by
    have h : gE [Z1] = 4 := by rw [← hZ1]; exact v4
    exact ⟨h, of_no h (by omega)⟩)
  obtain ⟨M, hM⟩ : ∃ M, parP [Z0] = M := ⟨_, rfl⟩
  have V5 := Lib.hid (v6 HZ0.out.2.1 HZ0.out.2.2 hM)
  have V5o : Hid (ofV [Z0] = M) := Lib.hid (by unfold ofV; rw [if_pos V5.out.1, hM])
  have V8 : Hid (repE [Z1, []] 1 [] = 4 ∧ repV [Z1, []] 1 [] = []) := Lib.hid (by
    have h : repE [Z1, []] 1 [] = 4 := by rw [← hZ1]; exact v8
    exact ⟨h, rv_no h (by omega)⟩)
  have V15 : Hid (repE (List.replicate 1 []) 0 Z3 = 12 ∧ repV (List.replicate 1 []) 0 Z3 = []) := Lib.hid (by
    have h : repE (List.replicate 1 []) 0 Z3 = 12 := by rw [← hZ3]; exact v15
    exact ⟨h, rv_no h (by omega)⟩)
  have V36 : Hid (recE [Z1, []] [false, true] 2 [] = 4) := Lib.hid (by rw [← hZ1]; exact v36)
  have HW : Hid (Below w.heap.size w w) := Lib.hid (Below.refl _ _)
  clear hZ0 hZ1 hZ3 hM
  go_enter Try.func4, Try.ntmps4
  go_wp2_with fail
  refine (Of_any none 0 0 [] _ (rows_none _)).mono ?_
  rw [w1.1, w1.2]
  rintro e w1 ⟨A1, c1, rfl, ho, hb⟩
  have hbb := (b_to (Below.refl _ _) hb)
  have hs := ho.has
  clear ho hb
  have HW := Lib.hid (b_to HW.out hbb)
  have HNONE := Lib.hid hs
  clear hs
  clear hbb
  have HR : Hid (RowsB (w1.alloc (.cells #[.slice none 0 0] 36)) (some ⟨w1.heap.size, 0, none⟩) 1 1 [r80]) := Lib.hid (rows_lit _ [r80] (one_in (inr_nil _)) (by simp) rfl rfl)
  go_wp2_with fail
  refine (Of_any (some ⟨w1.heap.size, 0, none⟩) 1 1 _ _ HR.out).mono ?_
  rw [w2.1, w2.2]
  rintro e w2 ⟨A2, c2, rfl, ho, hb⟩
  have hbb := (b_to (b_al (Below.refl _ _) _) hb)
  have hs := ho.has
  clear ho hb
  have HW := Lib.hid (b_to HW.out hbb)
  have HNONE := Lib.hid (HNONE.out.below hbb (Nat.le_refl _))
  have HEMPTY := Lib.hid hs
  clear hs
  clear hbb
  have HR : Hid (RowsB (w2.alloc (.cells (sCells 17) 36)) (some ⟨w2.heap.size, 0, none⟩) 17 17 (List.replicate 17 r80)) := Lib.hid (rows_s _ 17 (by omega) rfl)
  go_wp2_with fail
  refine (Of_any (some ⟨w2.heap.size, 0, none⟩) 17 17 _ _ HR.out).mono ?_
  rw [bs_nils, w3.1, w3.2]
  rintro e w3 ⟨A3, c3, rfl, ho, hb⟩
  have hbb := (b_to (b_al (Below.refl _ _) _) hb)
  clear ho hb
  have HW := Lib.hid (b_to HW.out hbb)
  have HNONE := Lib.hid (HNONE.out.below hbb (Nat.le_refl _))
  have HEMPTY := Lib.hid (HEMPTY.out.below hbb (Nat.le_refl _))
  clear hbb
  have HI : Hid (InR (w3.alloc (.cells (zCells 5001) 5)) ⟨some ⟨w3.heap.size, 0, none⟩, 5001, 5001, Z1⟩) := Lib.hid (inr_z HZ1.out.1 (by omega) rfl)
  have HR : Hid (RowsB ((w3.alloc (.cells (zCells 5001) 5)).alloc (.cells #[.slice (some ⟨w3.heap.size, 0, none⟩) 5001 5001] 36)) (some ⟨w3.heap.size + 1, 0, none⟩) 1 1 [⟨some ⟨w3.heap.size, 0, none⟩, 5001, 5001, Z1⟩]) := Lib.hid (rows_lit _ [⟨some ⟨w3.heap.size, 0, none⟩, 5001, 5001, Z1⟩] (one_in HI.out) (by simp) (by simp) rfl)
  clear HI
  go_wp2_with fail
  refine (Of_any (some ⟨w3.heap.size + 1, 0, none⟩) 1 1 _ _ HR.out).mono ?_
  rw [show bs [⟨some ⟨w3.heap.size, 0, none⟩, 5001, 5001, Z1⟩] = [Z1] from rfl, V4.out.2, V4.out.1]
  rintro e w4 ⟨A4, c4, rfl, ho, hb⟩
  have hbb := (b_to (b_al (b_al (Below.refl _ _) _) _) hb)
  clear ho hb
  have HW := Lib.hid (b_to HW.out hbb)
  have HNONE := Lib.hid (HNONE.out.below hbb (Nat.le_refl _))
  have HEMPTY := Lib.hid (HEMPTY.out.below hbb (Nat.le_refl _))
  clear hbb
  have HI : Hid (InR (w4.alloc (.cells (zCells 5000) 5)) ⟨some ⟨w4.heap.size, 0, none⟩, 5000, 5000, Z0⟩) := Lib.hid (inr_z HZ0.out.1 (by omega) rfl)
  have HR : Hid (RowsB ((w4.alloc (.cells (zCells 5000) 5)).alloc (.cells #[.slice (some ⟨w4.heap.size, 0, none⟩) 5000 5000] 36)) (some ⟨w4.heap.size + 1, 0, none⟩) 1 1 [⟨some ⟨w4.heap.size, 0, none⟩, 5000, 5000, Z0⟩]) := Lib.hid (rows_lit _ [⟨some ⟨w4.heap.size, 0, none⟩, 5000, 5000, Z0⟩] (one_in HI.out) (by simp) (by simp) rfl)
  clear HI
  go_wp2_with fail
  refine (Of_any (some ⟨w4.heap.size + 1, 0, none⟩) 1 1 _ _ HR.out).mono ?_
  rw [show bs [⟨some ⟨w4.heap.size, 0, none⟩, 5000, 5000, Z0⟩] = [Z0] from rfl, V5o.out, V5.out.1, V5.out.2.1]
  rintro e w5 ⟨AM, cM, rfl, ho, hb⟩
  have hbb := (b_to (b_al (b_al (Below.refl _ _) _) _) hb)
  have hs := ho.has
  have HCM := Lib.hid (OwnZ.bounds ho)
  clear ho hb
  have HW := Lib.hid (b_to HW.out hbb)
  have HNONE := Lib.hid (HNONE.out.below hbb (Nat.le_refl _))
  have HEMPTY := Lib.hid (HEMPTY.out.below hbb (Nat.le_refl _))
  have HMOST := Lib.hid hs
  clear hs hbb
  have HR : Hid (RowsB (w5.alloc (.cells (sCells 1) 36)) (some ⟨w5.heap.size, 0, none⟩) 1 1 (List.replicate 1 r80)) := Lib.hid (rows_s _ 1 (by omega) rfl)
  go_wp2_with fail
  refine (Repair_any (some ⟨w5.heap.size, 0, none⟩) AM 1 1 5002 cM 0 _ M _ HR.out (by omega) (by omega) (HMOST.out.below (Below.alloc (Below.refl _ _) (Nat.le_refl _) _) (Nat.le_refl _)) V5.out.2.1 HCM.out.2.1 HCM.out.2.2 V5.out.2.2.1).mono ?_
  rw [bs_nils, show List.replicate 1 ([] : List Int) = [[]] from rfl, V5.out.2.2.2.1, V5.out.2.2.2.2, HZ0.out.2.1]
  rintro e w6 ⟨A6, c6, rfl, ho, hb⟩
  have hbb := (b_to (b_al (Below.refl _ _) _) hb)
  clear ho hb
  have HW := Lib.hid (b_to HW.out hbb)
  have HNONE := Lib.hid (HNONE.out.below hbb (Nat.le_refl _))
  have HEMPTY := Lib.hid (HEMPTY.out.below hbb (Nat.le_refl _))
  have HMOST := Lib.hid (HMOST.out.below hbb (Nat.le_refl _))
  clear hbb
  have HI : Hid (InR (w6.alloc (.cells (zCells 5001) 5)) ⟨some ⟨w6.heap.size, 0, none⟩, 5001, 5001, Z1⟩) := Lib.hid (inr_z HZ1.out.1 (by omega) rfl)
  have HR : Hid (RowsB ((w6.alloc (.cells (zCells 5001) 5)).alloc (.cells #[.slice (some ⟨w6.heap.size, 0, none⟩) 5001 5001, .slice none 0 0] 36)) (some ⟨w6.heap.size + 1, 0, none⟩) 2 2 [⟨some ⟨w6.heap.size, 0, none⟩, 5001, 5001, Z1⟩, r80]) := Lib.hid (rows_lit _ [⟨some ⟨w6.heap.size, 0, none⟩, 5001, 5001, Z1⟩, r80] (two_in HI.out (inr_nil _)) (by simp) (by simp) rfl)
  clear HI
  go_wp2_with fail
  refine (Repair_any (some ⟨w6.heap.size + 1, 0, none⟩) none 2 2 0 0 1 _ [] _ HR.out (by omega) (by omega) (.inl rfl) rfl (Nat.le_refl _) (by omega) (by intro z hz; simp at hz)).mono ?_
  rw [show bs [⟨some ⟨w6.heap.size, 0, none⟩, 5001, 5001, Z1⟩, r80] = [Z1, []] from rfl, V8.out.1, V8.out.2]
  rintro e w7 ⟨A7, c7, rfl, ho, hb⟩
  have hbb := (b_to (b_al (b_al (Below.refl _ _) _) _) hb)
  have HLONG := Lib.hid (HR.out.below hb (Nat.le_refl _))
  clear ho hb
  have HW := Lib.hid (b_to HW.out hbb)
  have HNONE := Lib.hid (HNONE.out.below hbb (Nat.le_refl _))
  have HEMPTY := Lib.hid (HEMPTY.out.below hbb (Nat.le_refl _))
  clear hbb
  go_wp2_with fail
  refine (Repair_any (some ⟨w6.heap.size + 1, 0, none⟩) (some ⟨w7.heap.size, 0, none⟩) 2 2 3 3 0 _ [0, 1, 9] _ (HLONG.out.below (Below.alloc (Below.refl _ _) (Nat.le_refl _) _) (Nat.le_refl _)) (by omega) (by omega) (has_lit (zs := [0, 1, 9]) rfl (by unfold maxLen; simp)) rfl (Nat.le_refl _) (by omega) (byt_dec rfl)).mono ?_
  rw [show bs [⟨some ⟨w6.heap.size, 0, none⟩, 5001, 5001, Z1⟩, r80] = [Z1, []] from rfl, (v9z Z1).1, (v9z Z1).2]
  rintro e w8 ⟨A8, c8, rfl, ho, hb⟩
  have hbb := (b_to (b_al (Below.refl _ _) _) hb)
  have hs := ho.has
  clear ho hb
  have HW := Lib.hid (b_to HW.out hbb)
  have HNONE := Lib.hid (HNONE.out.below hbb (Nat.le_refl _))
  have HEMPTY := Lib.hid (HEMPTY.out.below hbb (Nat.le_refl _))
  have HLONG := Lib.hid (HLONG.out.below hbb (Nat.le_refl _))
  have HSTILL := Lib.hid hs
  clear hs
  clear hbb
  have HR : Hid (RowsB (w8.alloc (.cells (sCells 17) 36)) (some ⟨w8.heap.size, 0, none⟩) 17 17 (List.replicate 17 r80)) := Lib.hid (rows_s _ 17 (by omega) rfl)
  go_wp2_with fail
  refine (Repair_any (some ⟨w8.heap.size, 0, none⟩) none 17 17 0 0 99 _ [] _ HR.out (by omega) (by omega) (.inl rfl) rfl (Nat.le_refl _) (by omega) (by intro z hz; simp at hz)).mono ?_
  rw [bs_nils, v10, rv_no v10 (by omega)]
  rintro e w9 ⟨A9, c9, rfl, ho, hb⟩
  have hbb := (b_to (b_al (Below.refl _ _) _) hb)
  clear ho hb
  have HW := Lib.hid (b_to HW.out hbb)
  have HNONE := Lib.hid (HNONE.out.below hbb (Nat.le_refl _))
  have HEMPTY := Lib.hid (HEMPTY.out.below hbb (Nat.le_refl _))
  have HLONG := Lib.hid (HLONG.out.below hbb (Nat.le_refl _))
  have HSTILL := Lib.hid (HSTILL.out.below hbb (Nat.le_refl _))
  clear hbb
  go_wp2_with fail
  refine (Repair_any none none 0 0 0 0 0 [] [] _ (rows_none _) (by omega) (by omega) (.inl rfl) rfl (Nat.le_refl _) (by omega) (by intro z hz; simp at hz)).mono ?_
  rw [show bs ([] : List R8) = [] from rfl, v11, rv_no v11 (by omega)]
  rintro e w10 ⟨A10, c10, rfl, ho, hb⟩
  have hbb := (b_to (Below.refl _ _) hb)
  clear ho hb
  have HW := Lib.hid (b_to HW.out hbb)
  have HNONE := Lib.hid (HNONE.out.below hbb (Nat.le_refl _))
  have HEMPTY := Lib.hid (HEMPTY.out.below hbb (Nat.le_refl _))
  have HLONG := Lib.hid (HLONG.out.below hbb (Nat.le_refl _))
  have HSTILL := Lib.hid (HSTILL.out.below hbb (Nat.le_refl _))
  clear hbb
  have HR : Hid (RowsB (w10.alloc (.cells (sCells 2) 36)) (some ⟨w10.heap.size, 0, none⟩) 2 2 (List.replicate 2 r80)) := Lib.hid (rows_s _ 2 (by omega) rfl)
  go_wp2_with fail
  refine (Repair_any (some ⟨w10.heap.size, 0, none⟩) none 2 2 0 0 2 _ [] _ HR.out (by omega) (by omega) (.inl rfl) rfl (Nat.le_refl _) (by omega) (by intro z hz; simp at hz)).mono ?_
  rw [bs_nils, v12, rv_no v12 (by omega)]
  rintro e w11 ⟨A11, c11, rfl, ho, hb⟩
  have hbb := (b_to (b_al (Below.refl _ _) _) hb)
  clear ho hb
  have HW := Lib.hid (b_to HW.out hbb)
  have HNONE := Lib.hid (HNONE.out.below hbb (Nat.le_refl _))
  have HEMPTY := Lib.hid (HEMPTY.out.below hbb (Nat.le_refl _))
  have HLONG := Lib.hid (HLONG.out.below hbb (Nat.le_refl _))
  have HSTILL := Lib.hid (HSTILL.out.below hbb (Nat.le_refl _))
  clear hbb
  have HR : Hid (RowsB (w11.alloc (.cells (sCells 1) 36)) (some ⟨w11.heap.size, 0, none⟩) 1 1 (List.replicate 1 r80)) := Lib.hid (rows_s _ 1 (by omega) rfl)
  go_wp2_with fail
  refine (Repair_any (some ⟨w11.heap.size, 0, none⟩) none 1 1 0 0 (-1) _ [] _ HR.out (by omega) (by omega) (.inl rfl) rfl (Nat.le_refl _) (by omega) (by intro z hz; simp at hz)).mono ?_
  rw [bs_nils, v13, rv_no v13 (by omega)]
  rintro e w12 ⟨A12, c12, rfl, ho, hb⟩
  have hbb := (b_to (b_al (Below.refl _ _) _) hb)
  clear ho hb
  have HW := Lib.hid (b_to HW.out hbb)
  have HNONE := Lib.hid (HNONE.out.below hbb (Nat.le_refl _))
  have HEMPTY := Lib.hid (HEMPTY.out.below hbb (Nat.le_refl _))
  have HLONG := Lib.hid (HLONG.out.below hbb (Nat.le_refl _))
  have HSTILL := Lib.hid (HSTILL.out.below hbb (Nat.le_refl _))
  clear hbb
  have HR : Hid (RowsB ((w12.alloc (.cells (sCells 1) 36)).alloc (.cells #[.int .u8 0] 5)) (some ⟨w12.heap.size, 0, none⟩) 1 1 (List.replicate 1 r80)) := Lib.hid ((rows_s w12 1 (by omega) rfl).below (Below.alloc (Below.refl _ _) (Nat.le_refl _) _) (Nat.le_refl _))
  go_wp2_with fail
  refine (Repair_any (some ⟨w12.heap.size, 0, none⟩) (some ⟨w12.heap.size + 1, 0, none⟩) 1 1 1 1 0 _ [0] _ HR.out (by omega) (by omega) (has_lit (zs := [0]) (by simp) (by unfold maxLen; simp)) rfl (Nat.le_refl _) (by omega) (byt_dec rfl)).mono ?_
  rw [bs_nils, v14, rv_no v14 (by omega)]
  rintro e w13 ⟨A13, c13, rfl, ho, hb⟩
  have hbb := (b_to (b_al (b_al (Below.refl _ _) _) _) hb)
  clear ho hb
  have HW := Lib.hid (b_to HW.out hbb)
  have HNONE := Lib.hid (HNONE.out.below hbb (Nat.le_refl _))
  have HEMPTY := Lib.hid (HEMPTY.out.below hbb (Nat.le_refl _))
  have HLONG := Lib.hid (HLONG.out.below hbb (Nat.le_refl _))
  have HSTILL := Lib.hid (HSTILL.out.below hbb (Nat.le_refl _))
  clear hbb
  go_upto_region 15 with fail
  (have RD := grows_roads (S := fun x' => Below w13.heap.size w13 x') (fun a b h1 h2 => h2.trans (h1.mono h2.size))); refine region_ord _ Grows RD (Below.drew (Below.refl w13.heap.size w13)) (by kernel_rfl) ?_; intro ops Q' hops hPQ hN; (have HNS : Hid (Region.noSelect ops = true) := Lib.hid (by rw [hops]; kernel_rfl)); (have hsz : ops.size = 8 := (by rw [hops]; rfl)); have HOP := Lib.hid hops; have HPQ := Lib.hid hPQ; have HN := Lib.hid hN; rw [hsz]; clear hops hsz hPQ hN
  refine ord_new2 RD 0 1 (fun g => .slice (some ⟨g, 0, none⟩) 1 1) (fun g => .slice (some ⟨g, 0, none⟩) 5003 5003) (.cells (sCells 1) 36) (.cells (zCells 5003) 5) (by rw [HOP.out]; kernel_rfl) (by rw [HOP.out]; kernel_rfl) (by rw [HOP.out]; kernel_rfl) (at_list (by rw [HOP.out]; rfl)) (at_list (by rw [HOP.out]; rfl)) (by rw [HOP.out]; kernel_rfl) HNS.out (by rw [HOP.out]; rfl) (by rw [HOP.out]; rfl) (fun W => by go_simp) (fun W => by go_simp) ?_
  intro x1 y1 V1 hG1 hS1 hx1 hy1
  have HX1 : Hid (RowsB V1 (some ⟨x1, 0, none⟩) 1 1 (List.replicate 1 r80) ∧ Has .u8 V1 (some ⟨y1, 0, none⟩) Z3) := Lib.hid ⟨rows_heap hx1 (by omega), by rw [← HZ3.out.1]; exact hasz_heap hy1⟩
  have HS1 : Hid (Below w13.heap.size w13 V1) := Lib.hid hS1
  clear hG1 hx1 hy1 RD
  have RD := grows_roads (S := fun x' => Below V1.heap.size V1 x') (fun a b h1 h2 => h2.trans (h1.mono h2.size))
  refine ord_more RD (fun X h => HS1.out.trans (h.mono HS1.out.size)) (fun X hX _ => hX) ?_
  clear hS1
  try simp only [Act.put, List.setIfInBounds_toArray, List.set_cons_zero, List.set_cons_succ]
  refine ord_one RD 2 (by rw [HOP.out]; kernel_rfl) (at_list (by rw [HOP.out]; rfl)) (by rw [HOP.out]; rfl) (fun W2 hWW hSW K hK => ?_); (try dsimp only at hSW)
  go_simp
  refine (Repair_any (some ⟨x1, 0, none⟩) (some ⟨y1, 0, none⟩) 1 1 5003 5003 0 _ Z3 W2 (HX1.out.1.below hSW (Nat.le_refl _)) (by omega) (by omega) (HX1.out.2.below hSW (Nat.le_refl _)) HZ3.out.2.1 (Nat.le_refl _) (by omega) HZ3.out.2.2).mono ?_
  rw [bs_nils, V15.out.1, V15.out.2]
  rintro e w3 ⟨A15, c15, rfl, ho, hb⟩
  refine hK _ _ (RD.keep hb hSW) ?_
  clear ho hb hSW hWW
  clear hK K; (try simp only [Act.put, List.setIfInBounds_toArray, List.set_cons_zero, List.set_cons_succ])
  refine ord_take RD 3 (at_list (by rw [HOP.out]; rfl)) HNS.out HPQ.out (by rw [HOP.out]; kernel_rfl) (by rw [HOP.out]; kernel_rfl) (by rw [HOP.out]; rfl) (fun K hK => ?_); apply Exists.intro; refine ⟨fun W hSW => ?_, hK _ ?_⟩; (focus ((try dsimp only at hSW); go_simp; try with_reducible rfl)); clear hK K; (try simp only [Act.put, List.setIfInBounds_toArray, List.set_cons_zero, List.set_cons_succ])
  refine ord_take RD 4 (at_list (by rw [HOP.out]; rfl)) HNS.out HPQ.out (by rw [HOP.out]; kernel_rfl) (by rw [HOP.out]; kernel_rfl) (by rw [HOP.out]; rfl) (fun K hK => ?_); apply Exists.intro; refine ⟨fun W hSW => ?_, hK _ ?_⟩; (focus ((try dsimp only at hSW); go_simp; try with_reducible rfl)); clear hK K; (try simp only [Act.put, List.setIfInBounds_toArray, List.set_cons_zero, List.set_cons_succ])
  refine ord_take RD 5 (at_list (by rw [HOP.out]; rfl)) HNS.out HPQ.out (by rw [HOP.out]; kernel_rfl) (by rw [HOP.out]; kernel_rfl) (by rw [HOP.out]; rfl) (fun K hK => ?_); apply Exists.intro; refine ⟨fun W hSW => ?_, hK _ ?_⟩; (focus ((try dsimp only at hSW); go_simp; try with_reducible rfl)); clear hK K; (try simp only [Act.put, List.setIfInBounds_toArray, List.set_cons_zero, List.set_cons_succ])
  refine ord_take RD 6 (at_list (by rw [HOP.out]; rfl)) HNS.out HPQ.out (by rw [HOP.out]; kernel_rfl) (by rw [HOP.out]; kernel_rfl) (by rw [HOP.out]; rfl) (fun K hK => ?_); apply Exists.intro; refine ⟨fun W hSW => ?_, hK _ ?_⟩; (focus ((try dsimp only at hSW); go_simp; try with_reducible rfl)); clear hK K; (try simp only [Act.put, List.setIfInBounds_toArray, List.set_cons_zero, List.set_cons_succ])
  refine ord_take RD 7 (at_list (by rw [HOP.out]; rfl)) HNS.out HPQ.out (by rw [HOP.out]; kernel_rfl) (by rw [HOP.out]; kernel_rfl) (by rw [HOP.out]; rfl) (fun K hK => ?_); apply Exists.intro; refine ⟨fun W hSW => ?_, hK _ ?_⟩; (focus ((try dsimp only at hSW); go_simp; try with_reducible rfl)); clear hK K; (try simp only [Act.put, List.setIfInBounds_toArray, List.set_cons_zero, List.set_cons_succ])
  refine ord_done (by rw [HOP.out]; kernel_rfl) (fun w14 hWW hSW => HN.out _ _ ?_); clear HOP HNS HPQ HN RD; (try dsimp only at hSW)
  have hbb : Below w13.heap.size w13 w14 := b_to HS1.out hSW
  clear hWW hSW HS1 HX1
  have HW := Lib.hid (b_to HW.out hbb)
  have HNONE := Lib.hid (HNONE.out.below hbb (Nat.le_refl _))
  have HEMPTY := Lib.hid (HEMPTY.out.below hbb (Nat.le_refl _))
  have HLONG := Lib.hid (HLONG.out.below hbb (Nat.le_refl _))
  have HSTILL := Lib.hid (HSTILL.out.below hbb (Nat.le_refl _))
  clear hbb
  have HI : Hid (InR (w14.alloc (.cells #[.int .u8 97, .int .u8 98] 5 (2, 3))) ⟨some ⟨w14.heap.size, 0, none⟩, 2, 2, [97, 98]⟩) := Lib.hid (inr_mark w14 [97, 98] (2, 3) (by simp) (byt_dec rfl) rfl rfl)
  have HR0 : Hid (RowsB ((w14.alloc (.cells #[.int .u8 97, .int .u8 98] 5 (2, 3))).alloc (.cells #[.slice (some ⟨w14.heap.size, 0, none⟩) 2 2, .slice none 0 0] 36)) (some ⟨w14.heap.size + 1, 0, none⟩) 2 2 [⟨some ⟨w14.heap.size, 0, none⟩, 2, 2, [97, 98]⟩, r80]) := Lib.hid (rows_lit _ [⟨some ⟨w14.heap.size, 0, none⟩, 2, 2, [97, 98]⟩, r80] (two_in HI.out (inr_nil _)) (by simp) (by simp) rfl)
  have HR : Hid (RowsB (((w14.alloc (.cells #[.int .u8 97, .int .u8 98] 5 (2, 3))).alloc (.cells #[.slice (some ⟨w14.heap.size, 0, none⟩) 2 2, .slice none 0 0] 36)).alloc (.cells #[.int .u8 0, .int .u8 0, .int .u8 0] 5)) (some ⟨w14.heap.size + 1, 0, none⟩) 2 2 [⟨some ⟨w14.heap.size, 0, none⟩, 2, 2, [97, 98]⟩, r80]) := Lib.hid (HR0.out.below (Below.alloc (Below.refl _ _) (Nat.le_refl _) _) (Nat.le_refl _))
  clear HI HR0
  go_wp2_with fail
  refine (Repair_any (some ⟨w14.heap.size + 1, 0, none⟩) (some ⟨w14.heap.size + 2, 0, none⟩) 2 2 3 3 1 _ [0, 0, 0] _ HR.out (by omega) (by omega) (has_lit (zs := [0, 0, 0]) (by simp) (by unfold maxLen; simp)) rfl (Nat.le_refl _) (by omega) (byt_dec rfl)).mono ?_
  rw [show bs [⟨some ⟨w14.heap.size, 0, none⟩, 2, 2, [97, 98]⟩, r80] = [[97, 98], []] from rfl, v16, rv_no v16 (by omega)]
  rintro e w15 ⟨A15, c15, rfl, ho, hb⟩
  have hbb := (b_to (b_al (b_al (b_al (Below.refl _ _) _) _) _) hb)
  clear ho hb
  have HW := Lib.hid (b_to HW.out hbb)
  have HNONE := Lib.hid (HNONE.out.below hbb (Nat.le_refl _))
  have HEMPTY := Lib.hid (HEMPTY.out.below hbb (Nat.le_refl _))
  have HLONG := Lib.hid (HLONG.out.below hbb (Nat.le_refl _))
  have HSTILL := Lib.hid (HSTILL.out.below hbb (Nat.le_refl _))
  clear hbb
  have HR : Hid (RowsB ((w15.alloc (.cells (sCells 1) 36)).alloc (.cells #[.int .u8 0, .int .u8 2, .int .u8 1] 5)) (some ⟨w15.heap.size, 0, none⟩) 1 1 (List.replicate 1 r80)) := Lib.hid ((rows_s w15 1 (by omega) rfl).below (Below.alloc (Below.refl _ _) (Nat.le_refl _) _) (Nat.le_refl _))
  go_wp2_with fail
  refine (Repair_any (some ⟨w15.heap.size, 0, none⟩) (some ⟨w15.heap.size + 1, 0, none⟩) 1 1 3 3 0 _ [0, 2, 1] _ HR.out (by omega) (by omega) (has_lit (zs := [0, 2, 1]) (by simp) (by unfold maxLen; simp)) rfl (Nat.le_refl _) (by omega) (byt_dec rfl)).mono ?_
  rw [bs_nils, v17, rv_no v17 (by omega)]
  rintro e w16 ⟨A16, c16, rfl, ho, hb⟩
  have hbb := (b_to (b_al (b_al (Below.refl _ _) _) _) hb)
  clear ho hb
  have HW := Lib.hid (b_to HW.out hbb)
  have HNONE := Lib.hid (HNONE.out.below hbb (Nat.le_refl _))
  have HEMPTY := Lib.hid (HEMPTY.out.below hbb (Nat.le_refl _))
  have HLONG := Lib.hid (HLONG.out.below hbb (Nat.le_refl _))
  have HSTILL := Lib.hid (HSTILL.out.below hbb (Nat.le_refl _))
  clear hbb
  have HR : Hid (RowsB ((w16.alloc (.cells (sCells 1) 36)).alloc (.cells #[.int .u8 0, .int .u8 0, .int .u8 1] 5)) (some ⟨w16.heap.size, 0, none⟩) 1 1 (List.replicate 1 r80)) := Lib.hid ((rows_s w16 1 (by omega) rfl).below (Below.alloc (Below.refl _ _) (Nat.le_refl _) _) (Nat.le_refl _))
  go_wp2_with fail
  refine (Repair_any (some ⟨w16.heap.size, 0, none⟩) (some ⟨w16.heap.size + 1, 0, none⟩) 1 1 3 3 0 _ [0, 0, 1] _ HR.out (by omega) (by omega) (has_lit (zs := [0, 0, 1]) (by simp) (by unfold maxLen; simp)) rfl (Nat.le_refl _) (by omega) (byt_dec rfl)).mono ?_
  rw [bs_nils, v18, rv_no v18 (by omega)]
  rintro e w17 ⟨A17, c17, rfl, ho, hb⟩
  have hbb := (b_to (b_al (b_al (Below.refl _ _) _) _) hb)
  clear ho hb
  have HW := Lib.hid (b_to HW.out hbb)
  have HNONE := Lib.hid (HNONE.out.below hbb (Nat.le_refl _))
  have HEMPTY := Lib.hid (HEMPTY.out.below hbb (Nat.le_refl _))
  have HLONG := Lib.hid (HLONG.out.below hbb (Nat.le_refl _))
  have HSTILL := Lib.hid (HSTILL.out.below hbb (Nat.le_refl _))
  clear hbb
  have q1 := conv8 (n := 2) (c := c1) HNONE.out rfl
  have q2 := conv8 (n := 2) (c := c2) HEMPTY.out rfl
  have q3 := conv8 (n := 1) (c := c8) HSTILL.out rfl
  rw [show bstr [0, 0] = ⟨#[0, 0]⟩ from rfl] at q1 q2
  rw [show bstr [9] = ⟨#[9]⟩ from rfl] at q3
  go_wp2_with fail
  refine (Protect_any none 0 0 [] 0 _ (rows_none _) (by omega) (by omega)).mono ?_
  rintro e w18 ⟨⟨A18, c18, qs, rfl, ho, hv⟩, hb⟩
  rw [show protE (bs ([] : List R8)) 0 = 2 from v20]
  have hbb := (b_to (Below.refl _ _) hb)
  clear ho hv hb
  have HW := Lib.hid (b_to HW.out hbb)
  have HNONE := Lib.hid (HNONE.out.below hbb (Nat.le_refl _))
  have HEMPTY := Lib.hid (HEMPTY.out.below hbb (Nat.le_refl _))
  have HLONG := Lib.hid (HLONG.out.below hbb (Nat.le_refl _))
  have HSTILL := Lib.hid (HSTILL.out.below hbb (Nat.le_refl _))
  clear hbb
  clear q1 q2 q3
  have HR : Hid (RowsB (w18.alloc (.cells (sCells 101) 36)) (some ⟨w18.heap.size, 0, none⟩) 101 101 (List.replicate 101 r80)) := Lib.hid (rows_s _ 101 (by omega) rfl)
  go_wp2_with fail
  refine (Protect_any (some ⟨w18.heap.size, 0, none⟩) 101 101 _ 17 _ HR.out (by omega) (by omega)).mono ?_
  rintro e w19 ⟨⟨A19, c19, qs, rfl, ho, hv⟩, hb⟩
  rw [bs_nils, v21]
  have hbb := (b_to (b_al (Below.refl _ _) _) hb)
  clear ho hv hb
  have HW := Lib.hid (b_to HW.out hbb)
  have HLONG := Lib.hid (HLONG.out.below hbb (Nat.le_refl _))
  clear hbb
  have HR : Hid (RowsB (w19.alloc (.cells (sCells 101) 36)) (some ⟨w19.heap.size, 0, none⟩) 101 101 (List.replicate 101 r80)) := Lib.hid (rows_s _ 101 (by omega) rfl)
  go_wp2_with fail
  refine (Protect_any (some ⟨w19.heap.size, 0, none⟩) 101 101 _ 16 _ HR.out (by omega) (by omega)).mono ?_
  rintro e w20 ⟨⟨A20, c20, qs, rfl, ho, hv⟩, hb⟩
  rw [bs_nils, v22]
  have hbb := (b_to (b_al (Below.refl _ _) _) hb)
  clear ho hv hb
  have HW := Lib.hid (b_to HW.out hbb)
  have HLONG := Lib.hid (HLONG.out.below hbb (Nat.le_refl _))
  clear hbb
  have HR : Hid (RowsB (w20.alloc (.cells (sCells 100) 36)) (some ⟨w20.heap.size, 0, none⟩) 100 100 (List.replicate 100 r80)) := Lib.hid (rows_s _ 100 (by omega) rfl)
  go_wp2_with fail
  refine (Protect_any (some ⟨w20.heap.size, 0, none⟩) 100 100 _ 16 _ HR.out (by omega) (by omega)).mono ?_
  rintro e w21 ⟨⟨A21, c21, qs, rfl, ho, hv⟩, hb⟩
  rw [bs_nils, v23.1]
  have hbb := (b_to (b_al (Below.refl _ _) _) hb)
  rw [bs_nils] at hv
  rw [pl_len hv v23.2]
  clear ho hv hb
  have HW := Lib.hid (b_to HW.out hbb)
  have HLONG := Lib.hid (HLONG.out.below hbb (Nat.le_refl _))
  clear hbb
  go_wp2_with fail
  refine (Protect_any none 0 0 [] 3 _ (rows_none _) (by omega) (by omega)).mono ?_
  rintro e w22 ⟨⟨A22, c22, qs, rfl, ho, hv⟩, hb⟩
  rw [show protE (bs ([] : List R8)) 3 = 0 from v24.1]
  have hbb := (b_to (Below.refl _ _) hb)
  rw [pl_len hv (show (protV (bs ([] : List R8)) 3).length = 0 from v24.2)]
  clear ho hv hb
  have HW := Lib.hid (b_to HW.out hbb)
  have HLONG := Lib.hid (HLONG.out.below hbb (Nat.le_refl _))
  clear hbb
  go_wp2_with fail
  refine (Right_any none none 0 0 0 0 _ _ 3 _ (rows_none _) (by omega) (by omega) (rows_none _)).mono ?_
  rw [show rightB (bs ([] : List R8)) 3 (bs ([] : List R8)) = true from (by decide +kernel), show protE (bs ([] : List R8)) 3 = 0 from v24.1]
  rintro e w23 ⟨rfl, hb⟩
  have hbb := (b_to (Below.refl _ _) hb)
  clear hb
  have HW := Lib.hid (b_to HW.out hbb)
  have HLONG := Lib.hid (HLONG.out.below hbb (Nat.le_refl _))
  clear hbb
  have HI : Hid (InR (w23.alloc (.cells #[.int .u8 0, .int .u8 0] 5)) ⟨some ⟨w23.heap.size, 0, none⟩, 2, 2, [0, 0]⟩) := Lib.hid (inr_lit w23 [0, 0] (by simp) (byt_dec rfl) rfl rfl)
  have HR : Hid (RowsB ((w23.alloc (.cells #[.int .u8 0, .int .u8 0] 5)).alloc (.cells #[.slice (some ⟨w23.heap.size, 0, none⟩) 2 2] 36)) (some ⟨w23.heap.size + 1, 0, none⟩) 1 1 [⟨some ⟨w23.heap.size, 0, none⟩, 2, 2, [0, 0]⟩]) := Lib.hid (rows_lit _ [⟨some ⟨w23.heap.size, 0, none⟩, 2, 2, [0, 0]⟩] (one_in HI.out) (by simp) (by simp) rfl)
  clear HI
  go_wp2_with fail
  refine (Right_any none (some ⟨w23.heap.size + 1, 0, none⟩) 0 0 1 1 _ _ 3 _ (rows_none _) (by omega) (by omega) HR.out).mono ?_
  rw [show bs [⟨some ⟨w23.heap.size, 0, none⟩, 2, 2, [0, 0]⟩] = [[0, 0]] from rfl, show rightB (bs ([] : List R8)) 3 [[0, 0]] = false from (by decide +kernel), show protE (bs ([] : List R8)) 3 = 0 from v24.1]
  rintro e w24 ⟨rfl, hb⟩
  have hbb := (b_to (b_al (b_al (Below.refl _ _) _) _) hb)
  clear hb
  have HW := Lib.hid (b_to HW.out hbb)
  have HLONG := Lib.hid (HLONG.out.below hbb (Nat.le_refl _))
  clear hbb
  go_wp2_with fail
  refine (Right_any none none 0 0 0 0 _ _ 17 _ (rows_none _) (by omega) (by omega) (rows_none _)).mono ?_
  rw [show rightB (bs ([] : List R8)) 17 (bs ([] : List R8)) = false from (by decide +kernel), show protE (bs ([] : List R8)) 17 = 2 from v27]
  rintro e w25 ⟨rfl, hb⟩
  have hbb := (b_to (Below.refl _ _) hb)
  clear hb
  have HW := Lib.hid (b_to HW.out hbb)
  have HLONG := Lib.hid (HLONG.out.below hbb (Nat.le_refl _))
  clear hbb
  have HI : Hid (InR (((w25.alloc (.cells #[.int .u8 97] 5 (1, 2))).alloc (.cells #[.int .u8 98] 5 (1, 2))).alloc (.cells #[.int .u8 99] 5 (1, 2))) ⟨some ⟨w25.heap.size, 0, none⟩, 1, 1, [97]⟩ ∧ InR (((w25.alloc (.cells #[.int .u8 97] 5 (1, 2))).alloc (.cells #[.int .u8 98] 5 (1, 2))).alloc (.cells #[.int .u8 99] 5 (1, 2))) ⟨some ⟨w25.heap.size + 1, 0, none⟩, 1, 1, [98]⟩ ∧ InR (((w25.alloc (.cells #[.int .u8 97] 5 (1, 2))).alloc (.cells #[.int .u8 98] 5 (1, 2))).alloc (.cells #[.int .u8 99] 5 (1, 2))) ⟨some ⟨w25.heap.size + 2, 0, none⟩, 1, 1, [99]⟩) := Lib.hid (⟨((inr_mark w25 [97] (1, 2) (by simp) (byt_dec rfl) rfl rfl).below (Below.alloc (Below.refl _ _) (Nat.le_refl _) _) (Nat.le_refl _)).below (Below.alloc (Below.refl _ _) (Nat.le_refl _) _) (Nat.le_refl _), (inr_mark _ [98] (1, 2) (by simp) (byt_dec rfl) (by simp) rfl).below (Below.alloc (Below.refl _ _) (Nat.le_refl _) _) (Nat.le_refl _), inr_mark _ [99] (1, 2) (by simp) (byt_dec rfl) (by simp) rfl⟩)
  have HTWO : Hid (RowsB ((((w25.alloc (.cells #[.int .u8 97] 5 (1, 2))).alloc (.cells #[.int .u8 98] 5 (1, 2))).alloc (.cells #[.int .u8 99] 5 (1, 2))).alloc (.cells #[.slice (some ⟨w25.heap.size, 0, none⟩) 1 1, .slice (some ⟨w25.heap.size + 1, 0, none⟩) 1 1, .slice (some ⟨w25.heap.size + 2, 0, none⟩) 1 1] 36)) (some ⟨w25.heap.size + 3, 0, none⟩) 3 3 [⟨some ⟨w25.heap.size, 0, none⟩, 1, 1, [97]⟩, ⟨some ⟨w25.heap.size + 1, 0, none⟩, 1, 1, [98]⟩, ⟨some ⟨w25.heap.size + 2, 0, none⟩, 1, 1, [99]⟩]) := Lib.hid (rows_lit _ [⟨some ⟨w25.heap.size, 0, none⟩, 1, 1, [97]⟩, ⟨some ⟨w25.heap.size + 1, 0, none⟩, 1, 1, [98]⟩, ⟨some ⟨w25.heap.size + 2, 0, none⟩, 1, 1, [99]⟩] (three_in HI.out.1 HI.out.2.1 HI.out.2.2) (by simp) (by simp) rfl)
  clear HI
  go_wp2_with fail
  refine (Protect_any (some ⟨w25.heap.size + 3, 0, none⟩) 3 3 _ 2 _ HTWO.out (by omega) (by omega)).mono ?_
  rintro e w26 ⟨⟨AP, cP, ps, rfl, ho, hv⟩, hb⟩
  rw [show bs [⟨some ⟨w25.heap.size, 0, none⟩, 1, 1, [97]⟩, ⟨some ⟨w25.heap.size + 1, 0, none⟩, 1, 1, [98]⟩, ⟨some ⟨w25.heap.size + 2, 0, none⟩, 1, 1, [99]⟩] = [[97], [98], [99]] from rfl] at hv ⊢
  rw [v30.2] at hv
  have hpl := pl_len hv rfl
  have hpl2 : ps.length = 2 := hpl
  rw [hpl2] at ho
  rw [v30.1, hpl2]
  obtain ⟨gP, rfl, -, -⟩ := ho.form (by omega)
  have hbb := (b_to (b_al (b_al (b_al (b_al (Below.refl _ _) _) _) _) _) hb)
  have HTWO := Lib.hid (HTWO.out.below hb (Nat.le_refl _))
  have hps := ho.rows
  have HPV := Lib.hid hv
  have hcp : cP ≠ 0 := by have := hps.c1; omega
  clear ho hv hb hpl hpl2
  have HW := Lib.hid (b_to HW.out hbb)
  have HLONG := Lib.hid (HLONG.out.below hbb (Nat.le_refl _))
  have HPS := Lib.hid hps
  clear hbb hps
  go_wp2_with fail
  refine (Recover_any (some ⟨w25.heap.size + 3, 0, none⟩) (some ⟨w26.heap.size, 0, none⟩) (some ⟨gP, 0, none⟩) 3 3 2 2 2 cP _ ps (List.replicate 2 false) 2 _ ((HTWO.out).below (Below.alloc (Below.refl _ _) (Nat.le_refl _) _) (Nat.le_refl _)) (has_b _ _ 2 (by unfold maxLen; omega) rfl) rfl (by omega) (by omega) (by omega) ((HPS.out).below (Below.alloc (Below.refl _ _) (Nat.le_refl _) _) (Nat.le_refl _))).mono ?_
  rintro e w27 ⟨⟨A27, c27, us27, rfl, hr, hv⟩, hb⟩
  rw [show bs [⟨some ⟨w25.heap.size, 0, none⟩, 1, 1, [97]⟩, ⟨some ⟨w25.heap.size + 1, 0, none⟩, 1, 1, [98]⟩, ⟨some ⟨w25.heap.size + 2, 0, none⟩, 1, 1, [99]⟩] = [[97], [98], [99]] from rfl, HPV.out, v33]
  have hbb := (b_to (b_al (Below.refl _ _) _) hb)
  clear hv hb hr
  have HW := Lib.hid (b_to HW.out hbb)
  have HLONG := Lib.hid (HLONG.out.below hbb (Nat.le_refl _))
  have HTWO := Lib.hid (HTWO.out.below hbb (Nat.le_refl _))
  have HPS := Lib.hid (HPS.out.below hbb (Nat.le_refl _))
  clear hbb
  go_wp2_with fail
  refine (Recover_any (some ⟨w25.heap.size + 3, 0, none⟩) (some ⟨w27.heap.size, 0, none⟩) (some ⟨gP, 0, none⟩) 3 3 3 3 2 cP _ ps (List.replicate 3 false) 0 _ ((HTWO.out).below (Below.alloc (Below.refl _ _) (Nat.le_refl _) _) (Nat.le_refl _)) (has_b _ _ 3 (by unfold maxLen; omega) rfl) rfl (by omega) (by omega) (by omega) ((HPS.out).below (Below.alloc (Below.refl _ _) (Nat.le_refl _) _) (Nat.le_refl _))).mono ?_
  rintro e w28 ⟨⟨A28, c28, us28, rfl, hr, hv⟩, hb⟩
  rw [show bs [⟨some ⟨w25.heap.size, 0, none⟩, 1, 1, [97]⟩, ⟨some ⟨w25.heap.size + 1, 0, none⟩, 1, 1, [98]⟩, ⟨some ⟨w25.heap.size + 2, 0, none⟩, 1, 1, [99]⟩] = [[97], [98], [99]] from rfl, HPV.out, v34]
  have hbb := (b_to (b_al (Below.refl _ _) _) hb)
  clear hv hb hr
  have HW := Lib.hid (b_to HW.out hbb)
  have HLONG := Lib.hid (HLONG.out.below hbb (Nat.le_refl _))
  have HTWO := Lib.hid (HTWO.out.below hbb (Nat.le_refl _))
  have HPS := Lib.hid (HPS.out.below hbb (Nat.le_refl _))
  clear hbb
  go_upto_region 35 with fail
  (have RD := grows_roads (S := fun x' => Below w28.heap.size w28 x') (fun a b h1 h2 => h2.trans (h1.mono h2.size))); refine region_ord _ Grows RD (Below.drew (Below.refl w28.heap.size w28)) (by kernel_rfl) ?_; intro ops Q' hops hPQ hN; (have HNS : Hid (Region.noSelect ops = true) := Lib.hid (by rw [hops]; kernel_rfl)); (have hsz : ops.size = 8 := (by rw [hops]; rfl)); have HOP := Lib.hid hops; have HPQ := Lib.hid hPQ; have HN := Lib.hid hN; rw [hsz]; clear hops hsz hPQ hN
  refine ord_new2 RD 0 1 (fun g => .slice (some ⟨g, 0, none⟩) 101 101) (fun g => .slice (some ⟨g, 0, none⟩) 101 101) (.cells (sCells 101) 36) (.cells (bCells 101) 4) (by rw [HOP.out]; kernel_rfl) (by rw [HOP.out]; kernel_rfl) (by rw [HOP.out]; kernel_rfl) (at_list (by rw [HOP.out]; rfl)) (at_list (by rw [HOP.out]; rfl)) (by rw [HOP.out]; kernel_rfl) HNS.out (by rw [HOP.out]; rfl) (by rw [HOP.out]; rfl) (fun W => by go_simp) (fun W => by go_simp) ?_
  intro x1 y1 V1 hG1 hS1 hx1 hy1
  have HX1 : Hid (RowsB V1 (some ⟨x1, 0, none⟩) 101 101 (List.replicate 101 r80) ∧ HasB V1 (some ⟨y1, 0, none⟩) (List.replicate 101 false)) := Lib.hid ⟨rows_heap hx1 (by omega), hasb_heap hy1⟩
  have HS1 : Hid (Below w28.heap.size w28 V1) := Lib.hid hS1
  clear hG1 hx1 hy1 RD
  have RD := grows_roads (S := fun x' => Below V1.heap.size V1 x') (fun a b h1 h2 => h2.trans (h1.mono h2.size))
  refine ord_more RD (fun X h => HS1.out.trans (h.mono HS1.out.size)) (fun X hX _ => hX) ?_
  clear hS1
  try simp only [Act.put, List.setIfInBounds_toArray, List.set_cons_zero, List.set_cons_succ]
  refine ord_one RD 2 (by rw [HOP.out]; kernel_rfl) (at_list (by rw [HOP.out]; rfl)) (by rw [HOP.out]; rfl) (fun W2 hWW hSW K hK => ?_); (try dsimp only at hSW)
  go_simp
  refine (Recover_any (some ⟨x1, 0, none⟩) (some ⟨y1, 0, none⟩) none 101 101 101 101 0 0 _ [] (List.replicate 101 false) 2 W2 (HX1.out.1.below hSW (Nat.le_refl _)) (HX1.out.2.below hSW (Nat.le_refl _)) (by simp) (by omega) (by omega) (by omega) (rows_none _)).mono ?_
  rintro e w3 ⟨⟨A35, c35, us35, rfl, hr, hv⟩, hb⟩
  rw [bs_nils, show bs ([] : List R8) = [] from rfl, v35]
  refine hK _ _ (RD.keep hb hSW) ?_
  clear hr hv hb hSW hWW
  clear hK K; (try simp only [Act.put, List.setIfInBounds_toArray, List.set_cons_zero, List.set_cons_succ])
  refine ord_take RD 3 (at_list (by rw [HOP.out]; rfl)) HNS.out HPQ.out (by rw [HOP.out]; kernel_rfl) (by rw [HOP.out]; kernel_rfl) (by rw [HOP.out]; rfl) (fun K hK => ?_); apply Exists.intro; refine ⟨fun W hSW => ?_, hK _ ?_⟩; (focus ((try dsimp only at hSW); go_simp; try with_reducible rfl)); clear hK K; (try simp only [Act.put, List.setIfInBounds_toArray, List.set_cons_zero, List.set_cons_succ])
  refine ord_take RD 4 (at_list (by rw [HOP.out]; rfl)) HNS.out HPQ.out (by rw [HOP.out]; kernel_rfl) (by rw [HOP.out]; kernel_rfl) (by rw [HOP.out]; rfl) (fun K hK => ?_); apply Exists.intro; refine ⟨fun W hSW => ?_, hK _ ?_⟩; (focus ((try dsimp only at hSW); go_simp; try with_reducible rfl)); clear hK K; (try simp only [Act.put, List.setIfInBounds_toArray, List.set_cons_zero, List.set_cons_succ])
  refine ord_take RD 5 (at_list (by rw [HOP.out]; rfl)) HNS.out HPQ.out (by rw [HOP.out]; kernel_rfl) (by rw [HOP.out]; kernel_rfl) (by rw [HOP.out]; rfl) (fun K hK => ?_); apply Exists.intro; refine ⟨fun W hSW => ?_, hK _ ?_⟩; (focus ((try dsimp only at hSW); go_simp; try with_reducible rfl)); clear hK K; (try simp only [Act.put, List.setIfInBounds_toArray, List.set_cons_zero, List.set_cons_succ])
  refine ord_take RD 6 (at_list (by rw [HOP.out]; rfl)) HNS.out HPQ.out (by rw [HOP.out]; kernel_rfl) (by rw [HOP.out]; kernel_rfl) (by rw [HOP.out]; rfl) (fun K hK => ?_); apply Exists.intro; refine ⟨fun W hSW => ?_, hK _ ?_⟩; (focus ((try dsimp only at hSW); go_simp; try with_reducible rfl)); clear hK K; (try simp only [Act.put, List.setIfInBounds_toArray, List.set_cons_zero, List.set_cons_succ])
  refine ord_take RD 7 (at_list (by rw [HOP.out]; rfl)) HNS.out HPQ.out (by rw [HOP.out]; kernel_rfl) (by rw [HOP.out]; kernel_rfl) (by rw [HOP.out]; rfl) (fun K hK => ?_); apply Exists.intro; refine ⟨fun W hSW => ?_, hK _ ?_⟩; (focus ((try dsimp only at hSW); go_simp; try with_reducible rfl)); clear hK K; (try simp only [Act.put, List.setIfInBounds_toArray, List.set_cons_zero, List.set_cons_succ])
  refine ord_done (by rw [HOP.out]; kernel_rfl) (fun w29 hWW hSW => HN.out _ _ ?_); clear HOP HNS HPQ HN RD; (try dsimp only at hSW)
  have hbb : Below w28.heap.size w28 w29 := b_to HS1.out hSW
  clear hWW hSW HS1 HX1
  have HW := Lib.hid (b_to HW.out hbb)
  have HLONG := Lib.hid (HLONG.out.below hbb (Nat.le_refl _))
  have HTWO := Lib.hid (HTWO.out.below hbb (Nat.le_refl _))
  have HPS := Lib.hid (HPS.out.below hbb (Nat.le_refl _))
  clear hbb
  go_wp2_with fail
  refine (Recover_any (some ⟨w6.heap.size + 1, 0, none⟩) (some ⟨w29.heap.size, 0, none⟩) none 2 2 2 2 0 0 _ [] [false, true] 2 _ ((HLONG.out).below (Below.alloc (Below.refl _ _) (Nat.le_refl _) _) (Nat.le_refl _)) (hasB_lit (zs := [false, true]) rfl (by unfold maxLen; simp)) rfl (by omega) (by omega) (by omega) (rows_none _)).mono ?_
  rintro e w30 ⟨⟨A30, c30, us30, rfl, hr, hv⟩, hb⟩
  rw [show bs [⟨some ⟨w6.heap.size, 0, none⟩, 5001, 5001, Z1⟩, r80] = [Z1, []] from rfl, show bs ([] : List R8) = [] from rfl, V36.out]
  have hbb := (b_to (b_al (Below.refl _ _) _) hb)
  clear hv hb hr
  have HW := Lib.hid (b_to HW.out hbb)
  have HLONG := Lib.hid (HLONG.out.below hbb (Nat.le_refl _))
  have HTWO := Lib.hid (HTWO.out.below hbb (Nat.le_refl _))
  have HPS := Lib.hid (HPS.out.below hbb (Nat.le_refl _))
  clear hbb
  have hgt : (1 : Int) ≤ cP := by omega
  have hgt2 : 1 ≤ cP := by omega
  go_upto_region 37 with fail
  (have RD := grows_roads (S := fun x' => Below w30.heap.size w30 x') (fun a b h1 h2 => h2.trans (h1.mono h2.size))); refine region_ord _ Grows RD (Below.drew (Below.refl w30.heap.size w30)) (by kernel_rfl) ?_; intro ops Q' hops hPQ hN; (have HNS : Hid (Region.noSelect ops = true) := Lib.hid (by rw [hops]; kernel_rfl)); (have hsz : ops.size = 10 := (by rw [hops]; rfl)); have HOP := Lib.hid hops; have HPQ := Lib.hid hPQ; have HN := Lib.hid hN; rw [hsz]; clear hops hsz hPQ hN
  refine ord_take RD 0 (at_list (by rw [HOP.out]; rfl)) HNS.out HPQ.out (by rw [HOP.out]; kernel_rfl) (by rw [HOP.out]; kernel_rfl) (by rw [HOP.out]; rfl) (fun K hK => ?_); apply Exists.intro; refine ⟨fun W hSW => ?_, hK _ ?_⟩; (focus ((try dsimp only at hSW); go_simp; try with_reducible rfl)); clear hK K; (try simp only [Act.put, List.setIfInBounds_toArray, List.set_cons_zero, List.set_cons_succ])
  refine ord_take RD 2 (at_list (by rw [HOP.out]; rfl)) HNS.out HPQ.out (by rw [HOP.out]; kernel_rfl) (by rw [HOP.out]; kernel_rfl) (by rw [HOP.out]; rfl) (fun K hK => ?_); apply Exists.intro; refine ⟨fun W hSW => ?_, hK _ ?_⟩; (focus ((try dsimp only at hSW); go_simp; try with_reducible rfl)); clear hK K; (try simp only [Act.put, List.setIfInBounds_toArray, List.set_cons_zero, List.set_cons_succ])
  refine ord_take RD 3 (at_list (by rw [HOP.out]; rfl)) HNS.out HPQ.out (by rw [HOP.out]; kernel_rfl) (by rw [HOP.out]; kernel_rfl) (by rw [HOP.out]; rfl) (fun K hK => ?_); apply Exists.intro; refine ⟨fun W hSW => ?_, hK _ ?_⟩; (focus ((try dsimp only at hSW); go_simp; try with_reducible rfl)); clear hK K; (try simp only [Act.put, List.setIfInBounds_toArray, List.set_cons_zero, List.set_cons_succ])
  refine ord_one RD 1 (by rw [HOP.out]; kernel_rfl) (at_list (by rw [HOP.out]; rfl)) (by rw [HOP.out]; rfl) (fun W1 hWW hSW K hK => ?_); (try dsimp only at hSW)
  have HS1 : Hid (Below w30.heap.size w30 (W1.alloc (.cells (bCells 3) 4)) ∧ HasB (W1.alloc (.cells (bCells 3) 4)) (some ⟨W1.heap.size, 0, none⟩) (List.replicate 3 false)) := Lib.hid ⟨hSW.alloc hSW.size _, has_b _ _ 3 (by unfold maxLen; omega) rfl⟩
  go_simp
  refine hK _ _ (RD.keep (grows_alloc W1 _) hSW) ?_
  clear hSW hWW
  clear hK K; (try simp only [Act.put, List.setIfInBounds_toArray, List.set_cons_zero, List.set_cons_succ])
  generalize (W1.alloc (.cells (bCells 3) 4)) = V1 at *
  generalize W1.heap.size = y1 at *
  refine ord_one RD 4 (by rw [HOP.out]; kernel_rfl) (at_list (by rw [HOP.out]; rfl)) (by rw [HOP.out]; rfl) (fun W2 hWW hSW K hK => ?_); (try dsimp only at hSW)
  go_simp
  refine (Recover_any (some ⟨w25.heap.size + 3, 0, none⟩) (some ⟨y1, 0, none⟩) (some ⟨gP, 0, none⟩) 3 3 3 3 1 cP _ (ps.take 1) (List.replicate 3 false) 2 W2 (HTWO.out.below hSW (Nat.le_refl _)) (HS1.out.2.below hWW (Nat.le_refl _)) (by simp) (by omega) (by omega) (by omega) ((rows_front HPS.out (by omega)).below hSW (Nat.le_refl _))).mono ?_
  rintro e w3 ⟨⟨A37, c37, us37, rfl, hr, hv⟩, hb⟩
  rw [show bs [⟨some ⟨w25.heap.size, 0, none⟩, 1, 1, [97]⟩, ⟨some ⟨w25.heap.size + 1, 0, none⟩, 1, 1, [98]⟩, ⟨some ⟨w25.heap.size + 2, 0, none⟩, 1, 1, [99]⟩] = [[97], [98], [99]] from rfl, show bs (ps.take 1) = [[0, 0, 3]] by (have h := HPV.out; unfold bs at h ⊢; rw [List.map_take, h]; rfl), v37]
  refine hK _ _ (RD.keep hb hSW) ?_
  have H7 : Hid (Below w30.heap.size w30 w3) := Lib.hid (b_to hSW hb)
  clear hr hv hb hSW hWW
  clear hK K; (try simp only [Act.put, List.setIfInBounds_toArray, List.set_cons_zero, List.set_cons_succ])
  refine ord_take RD 5 (at_list (by rw [HOP.out]; rfl)) HNS.out HPQ.out (by rw [HOP.out]; kernel_rfl) (by rw [HOP.out]; kernel_rfl) (by rw [HOP.out]; rfl) (fun K hK => ?_); apply Exists.intro; refine ⟨fun W hSW => ?_, hK _ ?_⟩; (focus ((try dsimp only at hSW); go_simp; try with_reducible rfl)); clear hK K; (try simp only [Act.put, List.setIfInBounds_toArray, List.set_cons_zero, List.set_cons_succ])
  refine ord_take RD 6 (at_list (by rw [HOP.out]; rfl)) HNS.out HPQ.out (by rw [HOP.out]; kernel_rfl) (by rw [HOP.out]; kernel_rfl) (by rw [HOP.out]; rfl) (fun K hK => ?_); apply Exists.intro; refine ⟨fun W hSW => ?_, hK _ ?_⟩; (focus ((try dsimp only at hSW); go_simp; try with_reducible rfl)); clear hK K; (try simp only [Act.put, List.setIfInBounds_toArray, List.set_cons_zero, List.set_cons_succ])
  refine ord_take RD 7 (at_list (by rw [HOP.out]; rfl)) HNS.out HPQ.out (by rw [HOP.out]; kernel_rfl) (by rw [HOP.out]; kernel_rfl) (by rw [HOP.out]; rfl) (fun K hK => ?_); apply Exists.intro; refine ⟨fun W hSW => ?_, hK _ ?_⟩; (focus ((try dsimp only at hSW); go_simp; try with_reducible rfl)); clear hK K; (try simp only [Act.put, List.setIfInBounds_toArray, List.set_cons_zero, List.set_cons_succ])
  refine ord_take RD 8 (at_list (by rw [HOP.out]; rfl)) HNS.out HPQ.out (by rw [HOP.out]; kernel_rfl) (by rw [HOP.out]; kernel_rfl) (by rw [HOP.out]; rfl) (fun K hK => ?_); apply Exists.intro; refine ⟨fun W hSW => ?_, hK _ ?_⟩; (focus ((try dsimp only at hSW); go_simp; try with_reducible rfl)); clear hK K; (try simp only [Act.put, List.setIfInBounds_toArray, List.set_cons_zero, List.set_cons_succ])
  refine ord_take RD 9 (at_list (by rw [HOP.out]; rfl)) HNS.out HPQ.out (by rw [HOP.out]; kernel_rfl) (by rw [HOP.out]; kernel_rfl) (by rw [HOP.out]; rfl) (fun K hK => ?_); apply Exists.intro; refine ⟨fun W hSW => ?_, hK _ ?_⟩; (focus ((try dsimp only at hSW); go_simp; try with_reducible rfl)); clear hK K; (try simp only [Act.put, List.setIfInBounds_toArray, List.set_cons_zero, List.set_cons_succ])
  refine ord_done (by rw [HOP.out]; kernel_rfl) (fun w31 hWW hSW => HN.out _ _ ?_); clear HOP HNS HPQ HN RD; (try dsimp only at hSW)
  have hbb : Below w30.heap.size w30 w31 := hSW
  clear hWW hSW HS1 H7 hgt hgt2
  have HW := Lib.hid (b_to HW.out hbb)
  have HLONG := Lib.hid (HLONG.out.below hbb (Nat.le_refl _))
  have HTWO := Lib.hid (HTWO.out.below hbb (Nat.le_refl _))
  have HPS := Lib.hid (HPS.out.below hbb (Nat.le_refl _))
  clear hbb
  go_wp2_with fail
  refine (Recover_any (some ⟨w25.heap.size + 3, 0, none⟩) (some ⟨w31.heap.size, 0, none⟩) (some ⟨gP, 0, none⟩) 3 3 3 3 2 cP _ ps [true, true, false] 2 _ ((HTWO.out).below (Below.alloc (Below.refl _ _) (Nat.le_refl _) _) (Nat.le_refl _)) (hasB_lit (zs := [true, true, false]) rfl (by unfold maxLen; simp)) rfl (by omega) (by omega) (by omega) ((HPS.out).below (Below.alloc (Below.refl _ _) (Nat.le_refl _) _) (Nat.le_refl _))).mono ?_
  rintro e w32 ⟨⟨A32, c32, us32, rfl, hr, hv⟩, hb⟩
  rw [show bs [⟨some ⟨w25.heap.size, 0, none⟩, 1, 1, [97]⟩, ⟨some ⟨w25.heap.size + 1, 0, none⟩, 1, 1, [98]⟩, ⟨some ⟨w25.heap.size + 2, 0, none⟩, 1, 1, [99]⟩] = [[97], [98], [99]] from rfl, HPV.out, v38]
  have hbb := (b_to (b_al (Below.refl _ _) _) hb)
  clear hv hb hr
  have HW := Lib.hid (b_to HW.out hbb)
  have HLONG := Lib.hid (HLONG.out.below hbb (Nat.le_refl _))
  have HTWO := Lib.hid (HTWO.out.below hbb (Nat.le_refl _))
  have HPS := Lib.hid (HPS.out.below hbb (Nat.le_refl _))
  clear hbb
  have HI : Hid (InR (((w32.alloc (.cells #[.bool true, .bool false, .bool true] 4)).alloc (.cells #[.int .u8 0, .int .u8 9] 5)).alloc (.cells #[.int .u8 0, .int .u8 1, .int .u8 2] 5)) ⟨some ⟨w32.heap.size + 1, 0, none⟩, 2, 2, [0, 9]⟩ ∧ InR (((w32.alloc (.cells #[.bool true, .bool false, .bool true] 4)).alloc (.cells #[.int .u8 0, .int .u8 9] 5)).alloc (.cells #[.int .u8 0, .int .u8 1, .int .u8 2] 5)) ⟨some ⟨w32.heap.size + 2, 0, none⟩, 3, 3, [0, 1, 2]⟩) := Lib.hid (⟨(inr_lit _ [0, 9] (by simp) (byt_dec rfl) (by simp) rfl).below (Below.alloc (Below.refl _ _) (Nat.le_refl _) _) (Nat.le_refl _), inr_lit _ [0, 1, 2] (by simp) (byt_dec rfl) (by simp) rfl⟩)
  have HR : Hid (RowsB ((((w32.alloc (.cells #[.bool true, .bool false, .bool true] 4)).alloc (.cells #[.int .u8 0, .int .u8 9] 5)).alloc (.cells #[.int .u8 0, .int .u8 1, .int .u8 2] 5)).alloc (.cells #[.slice (some ⟨w32.heap.size + 1, 0, none⟩) 2 2, .slice (some ⟨w32.heap.size + 2, 0, none⟩) 3 3] 36)) (some ⟨w32.heap.size + 3, 0, none⟩) 2 2 [⟨some ⟨w32.heap.size + 1, 0, none⟩, 2, 2, [0, 9]⟩, ⟨some ⟨w32.heap.size + 2, 0, none⟩, 3, 3, [0, 1, 2]⟩]) := Lib.hid (rows_lit _ [⟨some ⟨w32.heap.size + 1, 0, none⟩, 2, 2, [0, 9]⟩, ⟨some ⟨w32.heap.size + 2, 0, none⟩, 3, 3, [0, 1, 2]⟩] (two_in HI.out.1 HI.out.2) (by simp) (by simp) rfl)
  have HLB : Hid (HasB ((((w32.alloc (.cells #[.bool true, .bool false, .bool true] 4)).alloc (.cells #[.int .u8 0, .int .u8 9] 5)).alloc (.cells #[.int .u8 0, .int .u8 1, .int .u8 2] 5)).alloc (.cells #[.slice (some ⟨w32.heap.size + 1, 0, none⟩) 2 2, .slice (some ⟨w32.heap.size + 2, 0, none⟩) 3 3] 36)) (some ⟨w32.heap.size, 0, none⟩) [true, false, true]) := Lib.hid (((((hasB_lit (w := w32) (e := 4) (zs := [true, false, true]) rfl (by unfold maxLen; simp)).below (Below.alloc (Below.refl _ _) (Nat.le_refl _) _) (Nat.le_refl _)).below (Below.alloc (Below.refl _ _) (Nat.le_refl _) _) (Nat.le_refl _)).below (Below.alloc (Below.refl _ _) (Nat.le_refl _) _) (Nat.le_refl _)))
  clear HI
  go_wp2_with fail
  refine (Recover_any (some ⟨w25.heap.size + 3, 0, none⟩) (some ⟨w32.heap.size, 0, none⟩) (some ⟨w32.heap.size + 3, 0, none⟩) 3 3 3 3 2 2 _ _ [true, false, true] 2 _ (((((HTWO.out).below (Below.alloc (Below.refl _ _) (Nat.le_refl _) _) (Nat.le_refl _)).below (Below.alloc (Below.refl _ _) (Nat.le_refl _) _) (Nat.le_refl _)).below (Below.alloc (Below.refl _ _) (Nat.le_refl _) _) (Nat.le_refl _)).below (Below.alloc (Below.refl _ _) (Nat.le_refl _) _) (Nat.le_refl _)) HLB.out rfl (by omega) (by omega) (by omega) HR.out).mono ?_
  rintro e w33 ⟨⟨A33, c33, us33, rfl, hr, hv⟩, hb⟩
  rw [show bs [⟨some ⟨w25.heap.size, 0, none⟩, 1, 1, [97]⟩, ⟨some ⟨w25.heap.size + 1, 0, none⟩, 1, 1, [98]⟩, ⟨some ⟨w25.heap.size + 2, 0, none⟩, 1, 1, [99]⟩] = [[97], [98], [99]] from rfl, show bs [⟨some ⟨w32.heap.size + 1, 0, none⟩, 2, 2, [0, 9]⟩, ⟨some ⟨w32.heap.size + 2, 0, none⟩, 3, 3, [0, 1, 2]⟩] = [[0, 9], [0, 1, 2]] from rfl, v39]
  have hbb := (b_to (b_al (b_al (b_al (b_al (Below.refl _ _) _) _) _) _) hb)
  clear hv hb hr
  have HW := Lib.hid (b_to HW.out hbb)
  have HLONG := Lib.hid (HLONG.out.below hbb (Nat.le_refl _))
  have HTWO := Lib.hid (HTWO.out.below hbb (Nat.le_refl _))
  have HPS := Lib.hid (HPS.out.below hbb (Nat.le_refl _))
  clear hbb
  clear HLB
  have HI : Hid (InR ((w33.alloc (.cells #[.int .u8 98] 5 (1, 2))).alloc (.cells #[.int .u8 63, .int .u8 63] 5 (2, 3))) ⟨some ⟨w33.heap.size, 0, none⟩, 1, 1, [98]⟩ ∧ InR ((w33.alloc (.cells #[.int .u8 98] 5 (1, 2))).alloc (.cells #[.int .u8 63, .int .u8 63] 5 (2, 3))) ⟨some ⟨w33.heap.size + 1, 0, none⟩, 2, 2, [63, 63]⟩) := Lib.hid (⟨(inr_mark w33 [98] (1, 2) (by simp) (byt_dec rfl) rfl rfl).below (Below.alloc (Below.refl _ _) (Nat.le_refl _) _) (Nat.le_refl _), inr_mark _ [63, 63] (2, 3) (by simp) (byt_dec rfl) (by simp) rfl⟩)
  have HR0 : Hid (RowsB (((w33.alloc (.cells #[.int .u8 98] 5 (1, 2))).alloc (.cells #[.int .u8 63, .int .u8 63] 5 (2, 3))).alloc (.cells #[.slice none 0 0, .slice (some ⟨w33.heap.size, 0, none⟩) 1 1, .slice (some ⟨w33.heap.size + 1, 0, none⟩) 2 2] 36)) (some ⟨w33.heap.size + 2, 0, none⟩) 3 3 [r80, ⟨some ⟨w33.heap.size, 0, none⟩, 1, 1, [98]⟩, ⟨some ⟨w33.heap.size + 1, 0, none⟩, 2, 2, [63, 63]⟩]) := Lib.hid (rows_lit _ [r80, ⟨some ⟨w33.heap.size, 0, none⟩, 1, 1, [98]⟩, ⟨some ⟨w33.heap.size + 1, 0, none⟩, 2, 2, [63, 63]⟩] (three_in (inr_nil _) HI.out.1 HI.out.2) (by simp) (by simp) rfl)
  have HR : Hid (RowsB ((((w33.alloc (.cells #[.int .u8 98] 5 (1, 2))).alloc (.cells #[.int .u8 63, .int .u8 63] 5 (2, 3))).alloc (.cells #[.slice none 0 0, .slice (some ⟨w33.heap.size, 0, none⟩) 1 1, .slice (some ⟨w33.heap.size + 1, 0, none⟩) 2 2] 36)).alloc (.cells #[.bool true, .bool false, .bool true] 4)) (some ⟨w33.heap.size + 2, 0, none⟩) 3 3 [r80, ⟨some ⟨w33.heap.size, 0, none⟩, 1, 1, [98]⟩, ⟨some ⟨w33.heap.size + 1, 0, none⟩, 2, 2, [63, 63]⟩]) := Lib.hid (HR0.out.below (Below.alloc (Below.refl _ _) (Nat.le_refl _) _) (Nat.le_refl _))
  clear HI HR0
  go_wp2_with fail
  refine (Recover_any (some ⟨w33.heap.size + 2, 0, none⟩) (some ⟨w33.heap.size + 3, 0, none⟩) (some ⟨gP, 0, none⟩) 3 3 3 3 2 cP _ ps [true, false, true] 2 _ HR.out (hasB_lit (zs := [true, false, true]) (by simp) (by unfold maxLen; simp)) rfl (by omega) (by omega) (by omega) (((((HPS.out).below (Below.alloc (Below.refl _ _) (Nat.le_refl _) _) (Nat.le_refl _)).below (Below.alloc (Below.refl _ _) (Nat.le_refl _) _) (Nat.le_refl _)).below (Below.alloc (Below.refl _ _) (Nat.le_refl _) _) (Nat.le_refl _)).below (Below.alloc (Below.refl _ _) (Nat.le_refl _) _) (Nat.le_refl _))).mono ?_
  rintro e w34 ⟨⟨A34, c34, us34, rfl, hr, hv⟩, hb⟩
  rw [show bs [r80, ⟨some ⟨w33.heap.size, 0, none⟩, 1, 1, [98]⟩, ⟨some ⟨w33.heap.size + 1, 0, none⟩, 2, 2, [63, 63]⟩] = [[], [98], [63, 63]] from rfl, HPV.out, v40.1]
  have hbb := (b_to (b_al (b_al (b_al (b_al (Below.refl _ _) _) _) _) _) hb)
  rw [show bs [r80, ⟨some ⟨w33.heap.size, 0, none⟩, 1, 1, [98]⟩, ⟨some ⟨w33.heap.size + 1, 0, none⟩, 2, 2, [63, 63]⟩] = [[], [98], [63, 63]] from rfl, HPV.out, v40.2] at hv
  have HGOTV := Lib.hid hv
  clear hv hb
  have HW := Lib.hid (b_to HW.out hbb)
  have HLONG := Lib.hid (HLONG.out.below hbb (Nat.le_refl _))
  have HTWO := Lib.hid (HTWO.out.below hbb (Nat.le_refl _))
  have HPS := Lib.hid (HPS.out.below hbb (Nat.le_refl _))
  have HGOT := Lib.hid hr
  clear hr
  clear hbb
  have HR : Hid (RowsB ((w34.alloc (.cells (bCells 3) 4)).alloc (.cells #[.slice none 0 0, .slice none 0 0] 36)) (some ⟨w34.heap.size + 1, 0, none⟩) 2 2 [r80, r80]) := Lib.hid (rows_lit _ [r80, r80] (two_in (inr_nil _) (inr_nil _)) (by simp) (by simp) rfl)
  go_wp2_with fail
  refine (Recover_any (some ⟨w25.heap.size + 3, 0, none⟩) (some ⟨w34.heap.size, 0, none⟩) (some ⟨w34.heap.size + 1, 0, none⟩) 3 3 3 3 2 2 _ _ (List.replicate 3 false) 2 _ (((HTWO.out).below (Below.alloc (Below.refl _ _) (Nat.le_refl _) _) (Nat.le_refl _)).below (Below.alloc (Below.refl _ _) (Nat.le_refl _) _) (Nat.le_refl _)) ((has_b w34 4 3 (by unfold maxLen; omega) rfl).below (Below.alloc (Below.refl _ _) (Nat.le_refl _) _) (Nat.le_refl _)) rfl (by omega) (by omega) (by omega) HR.out).mono ?_
  rintro e w35 ⟨⟨A35, c35, us35, rfl, hr, hv⟩, hb⟩
  rw [show bs [⟨some ⟨w25.heap.size, 0, none⟩, 1, 1, [97]⟩, ⟨some ⟨w25.heap.size + 1, 0, none⟩, 1, 1, [98]⟩, ⟨some ⟨w25.heap.size + 2, 0, none⟩, 1, 1, [99]⟩] = [[97], [98], [99]] from rfl, show bs [r80, r80] = [[], []] from rfl, v41.1]
  have hbb := (b_to (b_al (b_al (Below.refl _ _) _) _) hb)
  rw [show bs [⟨some ⟨w25.heap.size, 0, none⟩, 1, 1, [97]⟩, ⟨some ⟨w25.heap.size + 1, 0, none⟩, 1, 1, [98]⟩, ⟨some ⟨w25.heap.size + 2, 0, none⟩, 1, 1, [99]⟩] = [[97], [98], [99]] from rfl, show bs [r80, r80] = [[], []] from rfl, v41.2] at hv
  have HSAMEV := Lib.hid hv
  clear hv hb
  have HW := Lib.hid (b_to HW.out hbb)
  have HLONG := Lib.hid (HLONG.out.below hbb (Nat.le_refl _))
  have HTWO := Lib.hid (HTWO.out.below hbb (Nat.le_refl _))
  have HPS := Lib.hid (HPS.out.below hbb (Nat.le_refl _))
  have HGOT := Lib.hid (HGOT.out.below hbb (Nat.le_refl _))
  have HSAME := Lib.hid hr
  clear hr
  clear hbb
  have HD1 : Hid (decide (bs us34 = bs [⟨some ⟨w25.heap.size, 0, none⟩, 1, 1, [97]⟩, ⟨some ⟨w25.heap.size + 1, 0, none⟩, 1, 1, [98]⟩, ⟨some ⟨w25.heap.size + 2, 0, none⟩, 1, 1, [99]⟩]) = true) := Lib.hid (decide_eq_true (by rw [HGOTV.out]; rfl))
  have HD2 : Hid (decide (bs us35 = bs [⟨some ⟨w25.heap.size, 0, none⟩, 1, 1, [97]⟩, ⟨some ⟨w25.heap.size + 1, 0, none⟩, 1, 1, [98]⟩, ⟨some ⟨w25.heap.size + 2, 0, none⟩, 1, 1, [99]⟩]) = true) := Lib.hid (decide_eq_true (by rw [HSAMEV.out]; rfl))
  go_wp2_with fail
  refine (Same_any A34 (some ⟨w25.heap.size + 3, 0, none⟩) _ c34 3 3 us34 _ w35 HGOT.out HTWO.out).mono ?_
  rw [HD1.out]
  rintro e x1 ⟨rfl, hb1⟩
  have HX1 := Lib.hid hb1
  clear hb1
  go_wp2_with fail
  refine (Same_any A35 (some ⟨w25.heap.size + 3, 0, none⟩) _ c35 3 3 us35 _ x1 (HSAME.out.below HX1.out (Nat.le_refl _)) (HTWO.out.below HX1.out (Nat.le_refl _))).mono ?_
  rw [HD2.out]
  rintro e x2 ⟨rfl, hb2⟩
  have HX2 := Lib.hid (b_to HX1.out hb2)
  clear hb2
  go_wp2_with fail
  refine (alive_yes x2).mono ?_
  rintro e x3 ⟨rfl, hb3⟩
  have HX3 := Lib.hid (b_to HX2.out hb3)
  clear hb3
  go_wp2_with fail
  go_ret
  exact ⟨rfl, b_to HW.out HX3.out⟩
end Go.Proofs.Ytacllaeccdgnmaa.paL
