/- ShaNames: the facts. -/
import Derived.Test.YtmlfajmkgkgegaaDoorShL3
import Derived.Test.YtmlfajmkgkgegaaDoorMk8
namespace Go.Proofs.YtmlfajmkgkgegaaDoor.shL
open Go.RowKit Go.Proofs.YtmlfajmkgkgegaaDoor.base Go.Proofs.YtmlfajmkgkgegaaDoor.shP Go.Proofs.YtmlfajmkgkgegaaDoor.shW
set_option linter.unusedVariables false
set_option linter.unusedSimpArgs false
theorem mz20001 (w : World) : (Instr.makeSlice 29 (.int .i64 20001) (.int .i64 20001)).run Tryd.prog w = .ok (.slice (some ⟨w.heap.size, 0, none⟩) 20001 20001) (w.alloc (.cells (zC 20001) 5)) := mkz 20001 (by omega) w
theorem mz20000 (w : World) : (Instr.makeSlice 29 (.int .i64 20000) (.int .i64 20000)).run Tryd.prog w = .ok (.slice (some ⟨w.heap.size, 0, none⟩) 20000 20000) (w.alloc (.cells (zC 20000) 5)) := mkz 20000 (by omega) w
theorem mz63 (w : World) : (Instr.makeSlice 29 (.int .i64 63) (.int .i64 63)).run Tryd.prog w = .ok (.slice (some ⟨w.heap.size, 0, none⟩) 63 63) (w.alloc (.cells (zC 63) 5)) := mkz 63 (by omega) w
theorem mz65 (w : World) : (Instr.makeSlice 29 (.int .i64 65) (.int .i64 65)).run Tryd.prog w = .ok (.slice (some ⟨w.heap.size, 0, none⟩) 65 65) (w.alloc (.cells (zC 65) 5)) := mkz 65 (by omega) w
def zL (n : Nat) : Array Value := ((List.replicate n r80).map rv).toArray
theorem mr21 (w : World) : (Instr.makeSlice 31 (.int .i64 21) (.int .i64 21)).run Tryd.prog w = .ok (.slice (some ⟨w.heap.size, 0, none⟩) 21 21) (w.alloc (.cells (zL 21) 29)) := by kernel_rfl
theorem mr20 (w : World) : (Instr.makeSlice 31 (.int .i64 20) (.int .i64 20)).run Tryd.prog w = .ok (.slice (some ⟨w.heap.size, 0, none⟩) 20 20) (w.alloc (.cells (zL 20) 29)) := by kernel_rfl
theorem hasL_zL (w : World) (n : Nat) {g : Nat} (hg : w.heap.size = g) : HasL (w.alloc (.cells (zL n) 29)) (some ⟨g, 0, none⟩) (List.replicate n r80) := hasL_lit 29 hg fun r hr => by
  rw [(List.mem_replicate.1 hr).2]; exact inR_nil w
attribute [irreducible] zL
theorem zd_form : zd = wbytes ⟨0, 0, 0, 0, 0⟩ := by decide +kernel
theorem sum_form (b : List Int) : ∃ v : W5, sumV b = wbytes v := by
  unfold sumV
  split
  · exact dg_form b
  · exact ⟨_, zd_form⟩
theorem pi_form (rs : List R8) : ∃ v : W5, piV rs = wbytes v := by
  unfold piV
  split
  · exact dg_form _
  · exact ⟨_, zd_form⟩
theorem s20001 : sumE (List.replicate 20001 (0 : Int)) = 4 := by rw [sumE, List.length_replicate]; decide +kernel
theorem s20000 : sumE (List.replicate 20000 (0 : Int)) = 0 := by rw [sumE, List.length_replicate]; decide +kernel
theorem flat_nil (n : Nat) : wholeL (List.replicate n r80) = [] := by
  unfold wholeL
  rw [List.map_replicate]
  show (List.replicate n ([] : List Int)).flatten = []
  induction n with
  | zero => rfl
  | succ n ih => rw [List.replicate_succ, List.flatten_cons, ih]; rfl
theorem p21 : piE (List.replicate 21 r80) = 4 := (pi_no (by rw [List.length_replicate]; omega)).1
theorem p20 : piE (List.replicate 20 r80) = 0 ∧ piV (List.replicate 20 r80) = digest [] := by
  have := pi_yes (rs := List.replicate 20 r80) (by rw [List.length_replicate]; omega) (by rw [flat_nil]; simp)
  rwa [flat_nil] at this
theorem p0 : piE [] = 0 ∧ piV [] = digest [] := pi_yes (rs := []) (by simp) (by simp [wholeL])
theorem p2 (A B : Option Addr) (rs : List R8) (h : rs = [⟨A, 20000, 20000, List.replicate 20000 0⟩, ⟨B, 1, 1, [1]⟩]) : piE rs = 4 := by
  subst h
  refine (pi_no ?_).1
  intro h
  have h2 := h.2
  have e : wholeL [⟨A, 20000, 20000, List.replicate 20000 0⟩, ⟨B, 1, 1, [1]⟩] = List.replicate 20000 0 ++ [1] := rfl
  rw [e, List.length_append, List.length_replicate] at h2
  simp at h2
theorem bl63 (b : List Int) (h : b.length ≠ 64) (x : W5) : blkE b = 2 ∧ blkV x b = ⟨0, 0, 0, 0, 0⟩ := ⟨by rw [blkE, if_neg h], by rw [blkV, if_neg h]⟩
def sTwo : List Int := [97, 98, 99, 100, 98, 99, 100, 101, 99, 100, 101, 102, 100, 101, 102, 103, 101, 102, 103, 104, 102, 103, 104, 105, 103, 104, 105, 106, 104, 105, 106, 107, 105, 106, 107, 108, 106, 107, 108, 109, 107, 108, 109, 110, 108, 109, 110, 111, 109, 110, 111, 112, 110, 111, 112, 113]
set_option maxRecDepth 100000 in
theorem dig_two : (digest sTwo).getD 0 0 = 132 ∧ (digest sTwo).getD 1 0 = 152 ∧ (digest sTwo).getD 2 0 = 62 ∧ (digest sTwo).getD 3 0 = 68 ∧ (digest sTwo).getD 19 0 = 241 := by decide +kernel
theorem bl_two : bl ⟨#[97, 98, 99, 100, 98, 99, 100, 101, 99, 100, 101, 102, 100, 101, 102, 103, 101, 102, 103, 104, 102, 103, 104, 105, 103, 104, 105, 106, 104, 105, 106, 107, 105, 106, 107, 108, 106, 107, 108, 109, 107, 108, 109, 110, 108, 109, 110, 111, 109, 110, 111, 112, 110, 111, 112, 113]⟩ = sTwo := by decide +kernel
theorem pad_a : padE (-1) = 2 ∧ padV (-1) = [] := by decide +kernel
theorem pad_b : padE 20001 = 2 ∧ padV 20001 = [] := by decide +kernel
theorem pad_c : padE 20000 = 0 ∧ (padV 20000).length = 32 ∧ (padV 20000).getD 0 0 = 128 ∧ (padV 20000).getD 29 0 = 2 ∧ (padV 20000).getD 30 0 = 113 ∧ (padV 20000).getD 31 0 = 0 := by decide +kernel
theorem pad_d : padE 0 = 0 ∧ (padV 0).length = 64 ∧ (padV 0).getD 0 0 = 128 ∧ (padV 0).getD 63 0 = 0 := by decide +kernel
end Go.Proofs.YtmlfajmkgkgegaaDoor.shL
