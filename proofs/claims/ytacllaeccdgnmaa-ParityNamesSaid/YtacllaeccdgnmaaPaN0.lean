/- The values of the examples of ParityNames. -/
import Derived.Test.YtacllaeccdgnmaaPaPlain8
namespace Go.Proofs.Ytacllaeccdgnmaa.paP
set_option maxRecDepth 100000
open Go.RowKit
set_option linter.unusedVariables false
set_option maxRecDepth 100000
/-- What Of answers. -/
def ofV' (l : List (List Int)) : List Int := if gE l = 0 then parP l else []
theorem v1 : ofV' [] = [0, 0] ∧ gE [] = 0 := by decide +kernel
theorem v2 : ofV' [[]] = [0, 0] ∧ gE [[]] = 0 := by decide +kernel
theorem v3 : ofV' (List.replicate 17 []) = [] ∧ gE (List.replicate 17 []) = 4 := by decide +kernel
theorem v4 : gE [List.replicate 5001 0] = 4 := by decide +kernel
theorem v5 : gE [List.replicate 5000 0] = 0 := by decide +kernel
theorem v8 : repE [List.replicate 5001 0, []] 1 [] = 4 := by decide +kernel
theorem v9 : repE [[], []] 0 [0, 1, 9] = 0 ∧ repV [[], []] 0 [0, 1, 9] = [9] := by decide +kernel
theorem v10 : repE (List.replicate 17 []) 99 [] = 4 := by decide +kernel
theorem v11 : repE [] 0 [] = 2 := by decide +kernel
theorem v12 : repE (List.replicate 2 []) 2 [] = 2 := by decide +kernel
theorem v13 : repE (List.replicate 1 []) (-1) [] = 2 := by decide +kernel
theorem v14 : repE (List.replicate 1 []) 0 [0] = 12 := by decide +kernel
theorem v15 : repE (List.replicate 1 []) 0 (List.replicate 5003 0) = 12 := by decide +kernel
theorem v16 : repE [[97, 98], []] 1 [0, 0, 0] = 12 := by decide +kernel
theorem v17 : repE (List.replicate 1 []) 0 [0, 2, 1] = 12 := by decide +kernel
theorem v18 : repE (List.replicate 1 []) 0 [0, 0, 1] = 12 := by decide +kernel
theorem v20 : protE [] 0 = 2 := by decide +kernel
theorem v21 : protE (List.replicate 101 []) 17 = 2 := by decide +kernel
theorem v22 : protE (List.replicate 101 []) 16 = 4 := by decide +kernel
theorem v23 : protE (List.replicate 100 []) 16 = 0 ∧ (protV (List.replicate 100 []) 16).length = 7 := by decide +kernel
theorem v24 : protE [] 3 = 0 ∧ (protV [] 3).length = 0 := by decide +kernel
theorem v26 : protV [] 3 = [] := by decide +kernel
theorem v27 : protE [] 17 = 2 := by decide +kernel
theorem v30 : protE [[97], [98], [99]] 2 = 0 ∧ protV [[97], [98], [99]] 2 = [[0, 0, 3], [0, 1, 99]] := by decide +kernel
theorem v33 : recE [[97], [98], [99]] (List.replicate 2 false) 2 [[0, 0, 3], [0, 1, 99]] = 2 := by decide +kernel
theorem v34 : recE [[97], [98], [99]] (List.replicate 3 false) 0 [[0, 0, 3], [0, 1, 99]] = 2 := by decide +kernel
theorem v35 : recE (List.replicate 101 []) (List.replicate 101 false) 2 [] = 4 := by decide +kernel
theorem v36 : recE [List.replicate 5001 0, []] [false, true] 2 [] = 4 := by decide +kernel
theorem v37 : recE [[97], [98], [99]] (List.replicate 3 false) 2 [[0, 0, 3]] = 40 := by decide +kernel
theorem v38 : recE [[97], [98], [99]] [true, true, false] 2 [[0, 0, 3], [0, 1, 99]] = 40 := by decide +kernel
theorem v39 : recE [[97], [98], [99]] [true, false, true] 2 [[0, 9], [0, 1, 2]] = 12 := by decide +kernel
theorem v40 : recE [[], [98], [63, 63]] [true, false, true] 2 [[0, 0, 3], [0, 1, 99]] = 0 ∧ recV [[], [98], [63, 63]] [true, false, true] 2 [[0, 0, 3], [0, 1, 99]] = [[97], [98], [99]] := by decide +kernel
theorem v41 : recE [[97], [98], [99]] (List.replicate 3 false) 2 [[], []] = 0 ∧ recV [[97], [98], [99]] (List.replicate 3 false) 2 [[], []] = [[97], [98], [99]] := by decide +kernel
/-- The longest string's parity, and that it is repaired. -/
theorem v6 {Z M : List Int} (hz : Z.length = 5000) (hb : Byt Z) (hM : parP [Z] = M) : gE [Z] = 0 ∧ M.length = 5002 ∧ Byt M ∧ repE [[]] 0 M = 0 ∧ repV [[]] 0 M = Z := by
  have g0 : gE [Z] = 0 := by unfold gE; rw [if_neg (by simp [wd]; omega)]
  have hr := repairs_at (l := [Z]) (k := 0) (by simp) (fun u hu => by rw [List.mem_singleton.1 hu]; exact ⟨hb, by omega⟩) (by simp) []
  rw [hM] at hr
  refine ⟨g0, by rw [← hM, parP_len]; simp [wd]; omega, by rw [← hM]; exact parP_byt fun u hu => by rw [List.mem_singleton.1 hu]; exact ⟨hb, by omega⟩, hr.1, hr.2⟩
/-- What stands in a lost string's place does not matter. -/
theorem v9z (Z : List Int) : repE [Z, []] 0 [0, 1, 9] = 0 ∧ repV [Z, []] 0 [0, 1, 9] = [9] := by
  have h := rep_set [[], []] 0 Z [0, 1, 9]
  exact ⟨h.1.trans v9.1, h.2.trans v9.2⟩
end Go.Proofs.Ytacllaeccdgnmaa.paP
